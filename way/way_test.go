package way_test

import (
	"math"
	"math/rand"
	"slices"
	"strconv"
	"testing"

	"apostille/api"
	"apostille/cert"
	"apostille/crl"
	"apostille/rule"
	"apostille/sample"
	"apostille/way"
)

const now = 5000

// who is a name and its key.
type who struct {
	name []api.Attr
	key  sample.Signer
}

func person(s string, secret uint32) who { return who{sample.Name("o", s), sample.EC(secret)} }

// signs is a certificate of a person, signed by another one.
func (w who) signs(serial uint32, of who, l ...api.Ext) api.Cert {
	return sample.Cert(serial, of.name, of.key, w.name, w.key, l...)
}

// same tells whether a way is this one.
func same(t *testing.T, got []api.Cert, ok bool, want ...api.Cert) {
	t.Helper()
	if ok != (len(want) > 0) || !slices.EqualFunc(got, want, cert.Same) {
		t.Error("a way of", len(got), ok)
	}
}

var (
	root = person("root", 11)
	mid  = person("mid", 12)
	low  = person("low", 13)
	leaf = person("leaf", 14)
)

// P26.1
func TestStep(t *testing.T) {
	c := mid.signs(5, leaf)
	by := root.signs(2, mid, sample.Basic(1))
	gone := []api.Crl{sample.Crl(mid.name, mid.key, api.Gone{Serial: api.Nat{5}, At: now})}
	if !way.Step(c, by, nil, now, 0) || !way.Step(c, by, nil, now, 1) || !way.Step(c, by, gone, now-1, 0) {
		t.Error("a good step")
	}
	for i, ok := range []bool{
		way.Step(c, by, nil, now, 2),
		way.Step(c, by, nil, sample.Till+1, 0),
		way.Step(c, by, nil, sample.From-1, 0),
		way.Step(c, by, gone, now, 0),
		way.Step(c, root.signs(2, mid), nil, now, 0),
		way.Step(c, root.signs(2, mid, sample.Basic(1), sample.Usage(0xfb)), nil, now, 0),
		way.Step(c, root.signs(2, mid, sample.Basic(1), api.Ext{ID: []byte{9}, Critical: true}), nil, now, 0),
		way.Step(c, root.signs(2, low, sample.Basic(1)), nil, now, 0),
		way.Step(c, root.signs(2, who{mid.name, low.key}, sample.Basic(1)), nil, now, 0),
		way.Step(c, c, nil, now, 0),
	} {
		if ok {
			t.Error(i)
		}
	}
	if !way.Step(c, root.signs(2, mid, sample.Basic(-1)), nil, now, math.MaxInt) {
		t.Error("any path")
	}
}

// P26.1
func TestShortWays(t *testing.T) {
	anchor := root.signs(1, root, sample.Basic(-1))
	c := root.signs(5, leaf)
	got, ok := way.Find(c, nil, []api.Cert{anchor}, nil, now)
	same(t, got, ok, c, anchor)
	// An anchor that is signed by itself leads to itself.
	got, ok = way.Find(anchor, nil, []api.Cert{anchor}, nil, now)
	same(t, got, ok, anchor, anchor)
	// Without an anchor there is no way, nor if it does not hold.
	got, ok = way.Find(c, []api.Cert{c, anchor}, nil, nil, now)
	same(t, got, ok)
	got, ok = way.Find(c, nil, []api.Cert{anchor}, nil, sample.Till+1)
	same(t, got, ok)
	old := c
	old.Till = now - 1
	old = sample.Signed(old, root.key)
	got, ok = way.Find(old, nil, []api.Cert{anchor}, nil, now)
	same(t, got, ok)
	old = anchor
	old.Till = now - 1
	old = sample.Signed(old, root.key)
	got, ok = way.Find(c, nil, []api.Cert{old}, nil, now)
	same(t, got, ok)
	got, ok = way.Find(c, nil, []api.Cert{old, anchor}, nil, now)
	same(t, got, ok, c, anchor)
}

// P26.1: anchors ahead of certs, both in order; what leads nowhere is left.
func TestOrder(t *testing.T) {
	a1, a2 := root.signs(1, root, sample.Basic(-1)), root.signs(2, root, sample.Basic(-1))
	other := person("other", 15)
	m1, m2 := root.signs(3, mid, sample.Basic(-1)), root.signs(4, mid, sample.Basic(-1))
	stray := other.signs(5, mid, sample.Basic(-1))
	c := mid.signs(9, leaf)
	got, ok := way.Find(c, []api.Cert{stray, m1, m2}, []api.Cert{a1, a2}, nil, now)
	same(t, got, ok, c, m1, a1)
	got, ok = way.Find(c, []api.Cert{m2, stray, m1}, []api.Cert{a2, a1}, nil, now)
	same(t, got, ok, c, m2, a2)
	// mid is an anchor too: it is tried first.
	got, ok = way.Find(c, []api.Cert{m1}, []api.Cert{a1, m2}, nil, now)
	same(t, got, ok, c, m2)
	// The first one is gone: the next one is tried.
	gone := []api.Crl{sample.Crl(root.name, root.key, api.Gone{Serial: api.Nat{3}, At: now})}
	got, ok = way.Find(c, []api.Cert{m1, m2}, []api.Cert{a1}, gone, now)
	same(t, got, ok, c, m2, a1)
	got, ok = way.Find(c, []api.Cert{m1, m2}, []api.Cert{a1}, gone, now-1)
	same(t, got, ok, c, m1, a1)
	// A longer one ahead of a shorter one, as certs stand.
	l := mid.signs(6, low, sample.Basic(-1))
	direct := root.signs(7, low, sample.Basic(-1))
	c = low.signs(9, leaf)
	got, ok = way.Find(c, []api.Cert{l, direct, m1}, []api.Cert{a1}, nil, now)
	same(t, got, ok, c, l, m1, a1)
}

// P26.1: nobody stands in a way twice, and circles end.
func TestCircles(t *testing.T) {
	anchor := root.signs(1, root, sample.Basic(-1))
	ab, ba := mid.signs(2, low, sample.Basic(-1)), low.signs(3, mid, sample.Basic(-1))
	c := low.signs(9, leaf)
	got, ok := way.Find(c, []api.Cert{ab, ba, c, ab, ba}, []api.Cert{anchor}, nil, now)
	same(t, got, ok)
	out := root.signs(4, mid, sample.Basic(-1))
	got, ok = way.Find(c, []api.Cert{ab, ba, out}, []api.Cert{anchor}, nil, now)
	same(t, got, ok, c, ab, out, anchor)
	// c among certs is not taken behind itself.
	self := sample.Cert(9, leaf.name, leaf.key, leaf.name, leaf.key, sample.Basic(-1))
	got, ok = way.Find(self, []api.Cert{self}, []api.Cert{anchor}, nil, now)
	same(t, got, ok)
}

// chain is n certificates, each signed by the next one, and an anchor.
func chain(n int, exts func(i int) []api.Ext) ([]api.Cert, api.Cert) {
	at := func(i int) who { return person("c"+strconv.Itoa(i), uint32(100+i)) }
	var l []api.Cert
	for i := range n {
		l = append(l, at(i+1).signs(uint32(i+1), at(i), exts(i)...))
	}
	return l, at(n).signs(99, at(n), exts(n)...)
}

// P26.1: n from 0 to 7, and i below each.
func TestLong(t *testing.T) {
	for n := 1; n <= 9; n++ {
		l, anchor := chain(n, func(i int) []api.Ext { return []api.Ext{sample.Basic(max(i-1, 0))} })
		got, ok := way.Find(l[0], l[1:], []api.Cert{anchor}, nil, now)
		if n > 8 {
			same(t, got, ok)
			continue
		}
		same(t, got, ok, append(slices.Clone(l), anchor)...)
		for short := 1; short < n; short++ {
			l, anchor := chain(n, func(i int) []api.Ext {
				if i == short+1 {
					return []api.Ext{sample.Basic(short - 1)}
				}
				return []api.Ext{sample.Basic(-1)}
			})
			got, ok := way.Find(l[0], l[1:], []api.Cert{anchor}, nil, now)
			same(t, got, ok)
		}
	}
}

// P26.1: who is named for whom.
func TestNames(t *testing.T) {
	o := []api.Attr{{Kind: 10, Text: "o"}}
	x := []api.Attr{{Kind: 10, Text: "x"}}
	for at := 1; at <= 3; at++ {
		for _, c := range []struct {
			only []api.Attr
			want bool
		}{{o, true}, {x, false}, {sample.Name("o", "c0"), at == 1}} {
			l, anchor := chain(3, func(i int) []api.Ext {
				if i == at {
					return []api.Ext{sample.Basic(-1), sample.Only(c.only)}
				}
				return []api.Ext{sample.Basic(-1)}
			})
			got, ok := way.Find(l[0], l[1:], []api.Cert{anchor}, nil, now)
			if ok != c.want || len(got) != 0 && !c.want {
				t.Error(at, c.only, ok)
			}
		}
	}
	// What the first one is named for does not matter.
	l, anchor := chain(2, func(i int) []api.Ext {
		if i == 0 {
			return []api.Ext{sample.Only(x)}
		}
		return []api.Ext{sample.Basic(-1)}
	})
	got, ok := way.Find(l[0], l[1:], []api.Cert{anchor}, nil, now)
	same(t, got, ok, l[0], l[1], anchor)
}

// first is the first way, found without any memory.
func first(w, certs, anchors []api.Cert, l []api.Crl, at int64) []api.Cert {
	may := func(by api.Cert) bool {
		for _, x := range w {
			if !rule.Named(by, x.Subject) {
				return false
			}
		}
		return way.Step(w[len(w)-1], by, l, at, len(w)-1)
	}
	for _, a := range anchors {
		if may(a) {
			return append(slices.Clone(w), a)
		}
	}
	for _, c := range certs {
		again := slices.ContainsFunc(w, func(x api.Cert) bool { return cert.Same(x, c) })
		if again || len(w) == 8 || !may(c) {
			continue
		}
		if found := first(append(slices.Clone(w), c), certs, anchors, l, at); found != nil {
			return found
		}
	}
	return nil
}

// P26.1, P26.2
func TestAgainstAPlainSearch(t *testing.T) {
	r := rand.New(rand.NewSource(26))
	people := []who{person("a", 21), person("b", 22), person("c", 23), person("d", 24)}
	exts := func() []api.Ext {
		l := []api.Ext{sample.Basic(r.Intn(4) - 1)}
		if r.Intn(5) == 0 {
			l = append(l, sample.Only(sample.Name("o", []string{"a", "b", "c"}[r.Intn(3)]), []api.Attr{{Kind: 10, Text: "o"}}))
		}
		return l
	}
	found, none := 0, 0
	for range 150 {
		var pool []api.Cert
		for i := range 8 {
			by, of := people[r.Intn(4)], people[r.Intn(4)]
			pool = append(pool, by.signs(uint32(i+1), of, exts()...))
		}
		anchors := pool[6:]
		certs := pool[:6]
		var rows []api.Crl
		for range r.Intn(3) {
			p := people[r.Intn(4)]
			rows = append(rows, sample.Crl(p.name, p.key, api.Gone{Serial: api.Nat{uint32(1 + r.Intn(8))}, At: int64(now - 1 + r.Intn(3))}))
		}
		for _, c := range certs[:3] {
			got, ok := way.Find(c, certs, anchors, rows, now)
			want := first([]api.Cert{c}, certs, anchors, rows, now)
			if ok != (want != nil) || !slices.EqualFunc(got, want, cert.Same) {
				t.Fatal("another way", len(got), len(want))
			}
			if ok {
				found++
			} else {
				none++
			}
		}
	}
	if found < 50 || none < 50 {
		t.Error("not all was tried", found, none)
	}
}

// W1: a great many ways that lead nowhere are all tried.
func TestAllLeadNowhere(t *testing.T) {
	p := person("a", 21)
	var certs []api.Cert
	for i := range uint32(8) {
		certs = append(certs, p.signs(i+1, p, sample.Basic(-1)))
	}
	stranger := person("z", 31)
	anchor := stranger.signs(1, stranger, sample.Basic(-1))
	c := p.signs(50, leaf)
	if got, ok := way.Find(c, certs, []api.Cert{anchor, anchor, anchor, anchor}, nil, now); ok || got != nil {
		t.Error("a way to nowhere")
	}
	// As many as may be, and the last of each is the one.
	m, r := root.signs(2, mid, sample.Basic(-1)), root.signs(1, root, sample.Basic(-1))
	c = mid.signs(51, leaf)
	got, ok := way.Find(c, append(slices.Clone(certs[:7]), m), []api.Cert{anchor, anchor, anchor, r}, nil, now)
	same(t, got, ok, c, m, r)
	many := slices.Concat(certs, certs)
	way.Find(c, many, []api.Cert{anchor}, nil, now)
	way.Find(c, certs, many, nil, now)
	way.Find(api.Cert{}, []api.Cert{{}}, []api.Cert{{}}, []api.Crl{{}}, 0)
}

// P26.2
func TestMemory(t *testing.T) {
	anchors := []api.Cert{root.signs(1, root, sample.Basic(-1))}
	certs := []api.Cert{root.signs(2, mid, sample.Basic(-1), sample.Usage(0xff))}
	c := mid.signs(3, leaf, sample.Usage(0x80))
	rows := []api.Crl{sample.Crl(root.name, root.key)}
	got, ok := way.Find(c, certs, anchors, rows, now)
	if !ok || len(got) != 3 {
		t.Fatal("no way")
	}
	for _, x := range got {
		x.Serial[0], x.Issuer[0].Text, x.Subject[0].Text, x.Key.P.X[0], x.Key.P.Y[0], x.Sig[0] = 9, "z", "z", 9, 9, 9
		for _, e := range x.Exts {
			e.ID[0], e.Value[0] = 9, 9
		}
	}
	if !cert.Same(c, mid.signs(3, leaf, sample.Usage(0x80))) || !cert.Same(certs[0], root.signs(2, mid, sample.Basic(-1), sample.Usage(0xff))) || !cert.Same(anchors[0], root.signs(1, root, sample.Basic(-1))) || !crl.Same(rows[0], sample.Crl(root.name, root.key)) {
		t.Error("memory is shared")
	}
}
