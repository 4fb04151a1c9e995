package way

import (
	"apostille/api"
	"apostille/cert"
	"apostille/rule"
)

// What is known of whether one is linked to another one: a signature takes
// long to look at, and ways that are tried share their steps.
const (
	unknown = iota
	yes
	no
)

// search is a search for a way. Certificates are told by their places in all:
// the first one, certs, anchors.
type search struct {
	all    []api.Cert
	certs  int // how many certs there are
	rows   []api.Crl
	at     int64
	same   []int           // the first one that is the same
	links  [][]int         // by who is signed, by who signs
	over   [][longest]bool // whether one may stand over so many
	named  [][]bool        // whether one may sign for another one's name
	chosen stack[choice]
}

// choice is a certificate of the way that is tried, and which one behind it
// is tried next.
type choice struct {
	place int
	next  int
}

// newSearch is a search of which nothing was tried.
func newSearch(c api.Cert, certs, anchors []api.Cert, l []api.Crl, at int64) *search {
	s := &search{certs: len(certs), rows: l, at: at}
	s.all = append(s.all, c)
	s.all = append(s.all, certs...)
	s.all = append(s.all, anchors...)
	for i, x := range s.all {
		s.same = append(s.same, s.firstSame(i))
		s.links = append(s.links, make([]int, len(s.all)))
		var over [longest]bool
		for below := range over {
			over[below] = rule.Over(x, below)
		}
		s.over = append(s.over, over)
		named := make([]bool, len(s.all))
		for j, y := range s.all {
			named[j] = rule.Named(x, y.Subject)
		}
		s.named = append(s.named, named)
	}
	return s
}

// firstSame is the first place of a certificate that is the same.
func (s *search) firstSame(i int) int {
	for j := range i {
		if cert.Same(s.all[j], s.all[i]) {
			return j
		}
	}
	return i
}

// run is the first way's places, its anchor's last.
func (s *search) run() ([]int, bool) {
	s.chosen.push(choice{})
	for s.chosen.size() > 0 {
		last := s.chosen.top()
		if last.next == len(s.all)-1 {
			s.chosen.pop()
			continue
		}
		place := s.candidate(last.next)
		last.next++
		if !s.fits(place) {
			continue
		}
		if s.anchor(place) {
			return append(s.way(), place), true
		}
		s.chosen.push(choice{place: place})
	}
	return nil, false
}

// candidate is the place of what is tried as number k at each step: the
// anchors, then certs.
func (s *search) candidate(k int) int {
	anchors := len(s.all) - 1 - s.certs
	if k < anchors {
		return 1 + s.certs + k
	}
	return 1 + k - anchors
}

// anchor tells whether an anchor stands there.
func (s *search) anchor(place int) bool {
	return place > s.certs
}

// way is the places of the way that is tried.
func (s *search) way() []int {
	var l []int
	for _, c := range s.chosen.items {
		l = append(l, c.place)
	}
	return l
}

// fits tells whether one may be the next one of the way that is tried.
func (s *search) fits(place int) bool {
	n := s.chosen.size()
	if !s.anchor(place) && n == longest || !s.over[place][n-1] {
		return false
	}
	for _, c := range s.chosen.items {
		if !s.anchor(place) && s.same[c.place] == s.same[place] || !s.named[place][c.place] {
			return false
		}
	}
	return s.linked(s.chosen.top().place, place)
}

// linked tells whether one is linked to another one, and looks but once.
func (s *search) linked(place, by int) bool {
	known := &s.links[place][by]
	if *known == unknown {
		*known = no
		if linked(s.all[place], s.all[by], s.rows, s.at) {
			*known = yes
		}
	}
	return *known == yes
}
