package audit_test

import (
	"bytes"
	"math"
	"slices"
	"strconv"
	"testing"

	"apostille/api"
	"apostille/audit"
	"apostille/cert"
	"apostille/pack"
	"apostille/sample"
	"apostille/way"
)

const now = 5000

// file is a file of n bytes of one kind.
func file(name string, c byte, n int) api.File {
	return api.File{Name: name, Data: bytes.Repeat([]byte{c}, n)}
}

// P30.1
func TestRises(t *testing.T) {
	at := func(l ...uint64) []api.Answer {
		var a []api.Answer
		for _, c := range l {
			a = append(a, api.Answer{Counter: c})
		}
		return a
	}
	bad := api.Answer{Err: api.ErrCrash, Counter: 0}
	for i, c := range []struct {
		l    []api.Answer
		want bool
	}{
		{nil, true},
		{at(0), true},
		{at(5), true},
		{at(0, 0, 3, 3, 4, math.MaxUint64, math.MaxUint64), true},
		{at(3, 2), false},
		{at(math.MaxUint64, 0), false},
		{at(1, 5, 4, 6), false},
		{slices.Concat(at(3), []api.Answer{bad}, at(3)), true},
		{slices.Concat(at(3), []api.Answer{bad}, at(2)), false},
		{[]api.Answer{{Err: api.ErrForm, Counter: 9}, {Counter: 3}}, true},
	} {
		if audit.Rises(c.l) != c.want {
			t.Error(i)
		}
	}
}

// P30.1
func TestWhole(t *testing.T) {
	h := sample.NewHouse()
	x, y := file("x", 'a', 3), file("y/z", 'b', 0)
	one, two := h.Bytes("one", 1, x, y), h.Bytes("two", 2)
	named := pack.Bytes(h.Pack(sample.Manifest("three", 3, file("..", 'a', 1)), file("..", 'a', 1)))
	// A package that holds fewer files than it tells, and one that holds others.
	fewer := pack.Bytes(h.Pack(sample.Manifest("four", 4, x, y), x))
	other := pack.Bytes(h.Pack(sample.Manifest("five", 5, x), file("x", 'c', 3)))
	packs := [][]byte{nil, {1, 2}, make([]byte, 20000), one, two, named, fewer, other}
	for i, c := range []struct {
		a     api.Answer
		packs [][]byte
		want  bool
	}{
		{api.Answer{}, nil, true},
		{api.Answer{Err: api.ErrCrash}, nil, true},
		{api.Answer{Files: []api.File{}}, packs, true},
		{api.Answer{Counter: 1, Name: "one", Files: []api.File{x, y}}, packs, true},
		{api.Answer{Counter: 1, Name: "one", Files: []api.File{x, y}}, nil, false},
		{api.Answer{Counter: 1, Name: "one", Files: []api.File{x, y}}, [][]byte{two}, false},
		{api.Answer{Counter: 2, Name: "two"}, packs, true},
		{api.Answer{Counter: 2, Name: "one", Files: []api.File{x, y}}, packs, false},
		{api.Answer{Counter: 1, Name: "two", Files: []api.File{x, y}}, packs, false},
		{api.Answer{Counter: 1, Name: "one", Files: []api.File{x}}, packs, false},
		{api.Answer{Counter: 1, Name: "one", Files: []api.File{x, y, y}}, packs, false},
		{api.Answer{Counter: 1, Name: "one", Files: []api.File{x, file("y/z", 'b', 1)}}, packs, false},
		{api.Answer{Counter: 1, Name: "one", Files: []api.File{x, file("y/a", 'b', 0)}}, packs, false},
		{api.Answer{Counter: 1, Name: "one"}, packs, false},
		{api.Answer{Counter: 1}, packs, false},
		{api.Answer{Name: "one"}, packs, false},
		{api.Answer{Files: []api.File{x, y}}, packs, false},
		{api.Answer{Counter: 3, Name: "three", Files: []api.File{file("..", 'a', 1)}}, packs, false},
		{api.Answer{Counter: 4, Name: "four", Files: []api.File{x, y}}, packs, false},
		{api.Answer{Counter: 4, Name: "four", Files: []api.File{x}}, packs, false},
		{api.Answer{Counter: 5, Name: "five", Files: []api.File{file("x", 'c', 3)}}, packs, true},
		{api.Answer{Counter: 5, Name: "five", Files: []api.File{x}}, packs, false},
	} {
		if audit.Whole(c.a, c.packs) != c.want {
			t.Error(i)
		}
	}
}

// chain is n certificates, each signed by the next one, and an anchor.
func chain(n int, exts func(i int) []api.Ext) ([]api.Cert, api.Cert) {
	name := func(i int) []api.Attr { return sample.Name("o", "c"+strconv.Itoa(i)) }
	key := func(i int) sample.Signer { return sample.EC(uint32(100 + i)) }
	var l []api.Cert
	for i := range n {
		l = append(l, sample.Cert(uint32(i+1), name(i), key(i), name(i+1), key(i+1), exts(i)...))
	}
	return l, sample.Cert(99, name(n), key(n), name(n), key(n), exts(n)...)
}

// P30.1, P30.2
func TestWay(t *testing.T) {
	any := func(int) []api.Ext { return []api.Ext{sample.Basic(-1)} }
	for n := 1; n <= 9; n++ {
		l, anchor := chain(n, any)
		anchors := []api.Cert{anchor}
		found, ok := way.Find(l[0], l[1:], anchors, nil, now)
		w := append(slices.Clone(l), anchor)
		if ok != (n <= 8) || audit.Way(w, anchors, nil, now) != ok || ok && !audit.Way(found, anchors, nil, now) {
			t.Error(n, ok)
		}
	}
	l, anchor := chain(3, any)
	w := append(slices.Clone(l), anchor)
	other := anchor
	other.Serial = api.Nat{98}
	other = sample.Signed(other, sample.EC(103))
	gone := func(serial uint32, by int, at int64) []api.Crl {
		return []api.Crl{sample.Crl(sample.Name("o", "c"+strconv.Itoa(by)), sample.EC(uint32(100+by)), api.Gone{Serial: api.Nat{serial}, At: at})}
	}
	for i, c := range []struct {
		w, anchors []api.Cert
		l          []api.Crl
		at         int64
		want       bool
	}{
		{w, []api.Cert{other, anchor}, nil, now, true},
		{w, []api.Cert{other}, nil, now, false},
		{w, nil, nil, now, false},
		{nil, []api.Cert{anchor}, nil, now, false},
		{w[3:], []api.Cert{anchor}, nil, now, false},
		{w[2:], []api.Cert{anchor}, nil, now, true},
		{l, []api.Cert{anchor}, nil, now, false},
		{l, []api.Cert{l[2]}, nil, now, true},
		{[]api.Cert{w[0], w[2], w[3]}, []api.Cert{anchor}, nil, now, false},
		{[]api.Cert{w[1], w[0], w[2], w[3]}, []api.Cert{anchor}, nil, now, false},
		{w, []api.Cert{anchor}, nil, sample.Till + 1, false},
		{w, []api.Cert{anchor}, gone(1, 1, now), now, false},
		{w, []api.Cert{anchor}, gone(1, 1, now+1), now, true},
		{w, []api.Cert{anchor}, gone(2, 2, now), now, false},
		{w, []api.Cert{anchor}, gone(3, 3, now), now, false},
		{w, []api.Cert{anchor}, gone(1, 2, now), now, true},
		// The anchor may be there twice, no other one.
		{[]api.Cert{w[2], anchor, anchor}, []api.Cert{anchor}, nil, now, true},
		{[]api.Cert{anchor, anchor}, []api.Cert{anchor}, nil, now, true},
		{[]api.Cert{w[2], anchor, anchor, anchor}, []api.Cert{anchor}, nil, now, false},
	} {
		if audit.Way(c.w, c.anchors, c.l, c.at) != c.want {
			t.Error(i)
		}
	}
	// How many stand between, and who is named.
	for at := 1; at <= 3; at++ {
		for _, x := range []struct {
			e    api.Ext
			want bool
		}{{sample.Basic(at - 1), true}, {sample.Basic(at - 2), at == 1}} {
			l, anchor := chain(3, func(i int) []api.Ext {
				if i == at {
					return []api.Ext{x.e}
				}
				return []api.Ext{sample.Basic(-1)}
			})
			if audit.Way(append(slices.Clone(l), anchor), []api.Cert{anchor}, nil, now) != x.want {
				t.Error("Path", at, x.want)
			}
		}
		for only, want := range map[string]bool{"o": true, "x": false} {
			l, anchor := chain(3, func(i int) []api.Ext {
				e := []api.Ext{sample.Basic(-1)}
				if i == at {
					e = append(e, sample.Only([]api.Attr{{Kind: 10, Text: only}}))
				}
				return e
			})
			if audit.Way(append(slices.Clone(l), anchor), []api.Cert{anchor}, nil, now) != want {
				t.Error("Only", at, want)
			}
		}
	}
	// One need not be named for itself.
	l, anchor = chain(1, func(i int) []api.Ext {
		return []api.Ext{sample.Basic(-1), sample.Only(sample.Name("o", "c0"))}
	})
	if !audit.Way([]api.Cert{l[0], anchor}, []api.Cert{anchor}, nil, now) {
		t.Error("an anchor that is named for the first one alone")
	}
	// The first one holds.
	l, anchor = chain(1, any)
	l[0].Till = now - 1
	l[0] = sample.Signed(l[0], sample.EC(101))
	if audit.Way([]api.Cert{l[0], anchor}, []api.Cert{anchor}, nil, now) {
		t.Error("one that does not hold")
	}
	if !cert.Is(l[0]) || audit.Way([]api.Cert{{}, {}}, []api.Cert{{}}, nil, 0) {
		t.Error("no certificates")
	}
}

// P30.1
func TestSame(t *testing.T) {
	l := []api.Answer{
		{},
		{Err: api.ErrArg},
		{Counter: 1},
		{Name: "a"},
		{Files: []api.File{{}}},
		{Files: []api.File{file("a", 'a', 1)}},
		{Files: []api.File{file("a", 'b', 1)}},
		{Files: []api.File{file("b", 'a', 1)}},
		{Files: []api.File{file("b", 'a', 1), file("a", 'a', 1)}},
		{Files: []api.File{file("a", 'a', 1), file("b", 'a', 1)}},
	}
	for i, a := range l {
		for j, b := range l {
			if audit.Same(a, b) != (i == j) {
				t.Error(i, j)
			}
		}
	}
	if !audit.Same(api.Answer{Files: []api.File{{Data: []byte{}}}}, l[4]) || !audit.Same(api.Answer{Files: []api.File{}}, l[0]) {
		t.Error("nil and empty are the same")
	}
}
