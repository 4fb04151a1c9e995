package tlv

import (
	"bytes"

	"apostille/api"
)

// reader is what is left to be read, and how many things were begun.
type reader struct {
	rest  []byte
	count int
}

// thing reads one that stands in so many bytes, so deep.
func (r *reader) thing(left, deep int) (api.Node, api.Errno) {
	if left == 0 || !tagged(r.rest[0]) {
		return api.Node{}, api.ErrForm
	}
	if deep > api.MaxDeep {
		return api.Node{}, api.ErrDeep
	}
	r.count++
	if r.count > api.MaxNodes {
		return api.Node{}, api.ErrLarge
	}
	n := api.Node{Tag: r.rest[0]}
	r.rest = r.rest[1:]
	in, ok := r.length(left - 1)
	if !ok {
		return api.Node{}, api.ErrForm
	}
	if !constructed(n.Tag) {
		n.Body = bytes.Clone(r.rest[:in])
		r.rest = r.rest[in:]
		return n, api.OK
	}
	end := len(r.rest) - in
	for len(r.rest) > end {
		kid, e := r.thing(len(r.rest)-end, deep+1)
		if e != api.OK {
			return api.Node{}, e
		}
		n.Kids = append(n.Kids, kid)
	}
	return n, api.OK
}

// length reads a length, of which (and of what it tells) so many bytes are left.
func (r *reader) length(left int) (int, bool) {
	if left == 0 {
		return 0, false
	}
	n, used := int(r.rest[0]), 1
	if n >= long {
		many := n - long
		if many == 0 || many > left-1 || r.rest[1] == 0 {
			return 0, false
		}
		n, used = 0, 1+many
		for _, c := range r.rest[1:used] {
			n = n<<8 | int(c)
			// No more can be left; a greater number would go round.
			if n > api.MaxPack {
				return 0, false
			}
		}
		if n < long {
			return 0, false
		}
	}
	if n > left-used {
		return 0, false
	}
	r.rest = r.rest[used:]
	return n, true
}
