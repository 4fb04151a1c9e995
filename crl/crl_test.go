package crl_test

import (
	"bytes"
	"crypto/sha256"
	"math"
	"slices"
	"testing"

	"apostille/api"
	"apostille/atom"
	"apostille/crl"
	"apostille/nat"
	"apostille/sample"
	"apostille/tlv"
	"apostille/when"
)

func gone(serial uint32, at int64) api.Gone { return api.Gone{Serial: api.Nat{serial}, At: at} }

// plain is a row that may be.
func plain() api.Crl {
	return sample.Crl(sample.Name("ca"), sample.EC(4), gone(5, 10), gone(7, 20), gone(1<<31, 0))
}

// with is a plain one, changed.
func with(f func(l *api.Crl)) api.Crl {
	l := plain()
	f(&l)
	return l
}

// many is n serials.
func many(n int) []api.Gone {
	var l []api.Gone
	for i := range n {
		l = append(l, gone(uint32(i+1), int64(i)))
	}
	return l
}

// good is rows that may be, no two of them the same.
func good() []api.Crl {
	serial := bytes.Repeat([]byte{255}, 20)
	serial[0] = 0x7f
	return []api.Crl{
		plain(),
		with(func(l *api.Crl) { l.Gone = nil }),
		with(func(l *api.Crl) { l.Gone = many(16) }),
		with(func(l *api.Crl) { l.Gone[0].At = 11 }),
		with(func(l *api.Crl) { l.Gone[2].Serial = nat.Of(serial) }),
		with(func(l *api.Crl) { l.Issuer = sample.Name("x") }),
		with(func(l *api.Crl) { l.At = l.Next }),
		with(func(l *api.Crl) { l.Next = 253402300799 }),
		with(func(l *api.Crl) { l.Sig = []byte{1} }),
		with(func(l *api.Crl) { l.Sig = make([]byte, 600) }),
	}
}

// wrong is rows that may not be.
func wrong() []api.Crl {
	return []api.Crl{
		{},
		with(func(l *api.Crl) { l.Issuer = nil }),
		with(func(l *api.Crl) { l.At = l.Next + 1 }),
		with(func(l *api.Crl) { l.At = math.MinInt64 }),
		with(func(l *api.Crl) { l.Next = 253402300800 }),
		with(func(l *api.Crl) { l.Gone = many(17) }),
		with(func(l *api.Crl) { l.Gone[0].Serial = nil }),
		with(func(l *api.Crl) { l.Gone[0].Serial = api.Nat{5, 0} }),
		with(func(l *api.Crl) { l.Gone[2].Serial = nat.Of(bytes.Repeat([]byte{1}, 21)) }),
		with(func(l *api.Crl) { l.Gone[2].Serial = nat.Of(bytes.Repeat([]byte{0x80}, 20)) }),
		with(func(l *api.Crl) { l.Gone[1].Serial = api.Nat{5} }),
		with(func(l *api.Crl) { l.Gone[1].Serial = api.Nat{4} }),
		with(func(l *api.Crl) { l.Gone[1].At = math.MaxInt64 }),
		with(func(l *api.Crl) { l.Sig = nil }),
		with(func(l *api.Crl) { l.Sig = make([]byte, 601) }),
	}
}

// P19.1
func TestIs(t *testing.T) {
	for i, l := range good() {
		if !crl.Is(l) {
			t.Error(i)
		}
	}
	for i, l := range wrong() {
		if crl.Is(l) || !tlv.Same(crl.Body(l), api.Node{}) || !tlv.Same(crl.Node(l), api.Node{}) || crl.Digest(l) != nil {
			t.Error(i)
		}
	}
}

// P19.1
func TestBody(t *testing.T) {
	l := plain()
	b := crl.Body(l)
	one := func(serial uint64, at int64) api.Node {
		return atom.Seq(0x30, atom.Small(serial), when.Time(at))
	}
	if len(b.Kids) != 3 || b.Tag != 0x30 || !tlv.Same(b.Kids[2], atom.Seq(0x30, one(5, 10), one(7, 20), one(1<<31, 0))) {
		t.Error(b)
	}
	if !tlv.Same(b.Kids[1], atom.Seq(0x30, when.Time(sample.From), when.Time(sample.Till))) {
		t.Error("times")
	}
	if !tlv.Same(crl.Node(l), atom.Seq(0x30, b, atom.Bits(l.Sig))) {
		t.Error("Node")
	}
	want := sha256.Sum256(tlv.Bytes(b))
	if !bytes.Equal(crl.Digest(l), want[:]) {
		t.Error("Digest")
	}
}

// P19.1, P19.2
func TestGet(t *testing.T) {
	for i, l := range good() {
		n, e := tlv.Read(tlv.Bytes(crl.Node(l)))
		got, ok := crl.Get(n)
		if e != api.OK || !ok || !crl.Same(got, l) {
			t.Error(i)
		}
	}
	l := plain()
	b, sig := crl.Body(l), atom.Bits(l.Sig)
	with := func(at int, n api.Node) api.Node {
		kids := slices.Clone(b.Kids)
		kids[at] = n
		return atom.Seq(0x30, atom.Seq(0x30, kids...), sig)
	}
	pair := b.Kids[2].Kids
	for i, n := range []api.Node{
		{},
		atom.Seq(0x30),
		atom.Seq(0x30, b),
		atom.Seq(0x30, b, sig, sig),
		atom.Seq(0x31, b, sig),
		atom.Seq(0x30, b, atom.Bits(nil)),
		atom.Seq(0x30, b, atom.Octets(l.Sig)),
		atom.Seq(0x30, atom.Seq(0x30, b.Kids[:2]...), sig),
		atom.Seq(0x30, atom.Seq(0x31, b.Kids...), sig),
		with(0, atom.Seq(0x30)),
		with(1, atom.Seq(0x30)),
		with(1, atom.Seq(0x30, b.Kids[1].Kids[1], b.Kids[1].Kids[0])),
		with(1, atom.Seq(0x30, b.Kids[1].Kids[1])),
		with(1, atom.Seq(0x30, atom.Small(1), b.Kids[1].Kids[0])),
		with(1, atom.Seq(0x31, b.Kids[1].Kids...)),
		with(2, atom.Seq(0x31)),
		with(2, atom.Octets(nil)),
		with(2, atom.Seq(0x30, pair[1], pair[0])),
		with(2, atom.Seq(0x30, pair[0], pair[0])),
		with(2, atom.Seq(0x30, atom.Seq(0x31, pair[0].Kids...))),
		with(2, atom.Seq(0x30, atom.Seq(0x30, pair[0].Kids[0]))),
		with(2, atom.Seq(0x30, atom.Seq(0x30, append(slices.Clone(pair[0].Kids), pair[0].Kids[1])...))),
		with(2, atom.Seq(0x30, atom.Seq(0x30, atom.Small(0), pair[0].Kids[1]))),
		with(2, atom.Seq(0x30, atom.Seq(0x30, atom.Small(5), atom.Small(5)))),
		with(2, atom.Seq(0x30, atom.Seq(0x30, api.Node{Tag: 2, Body: []byte{0, 5}}, pair[0].Kids[1]))),
	} {
		if got, ok := crl.Get(n); ok || !crl.Same(got, api.Crl{}) {
			t.Error(i)
		}
	}
	for i, l := range wrong() {
		var kids []api.Node
		for _, g := range l.Gone {
			kids = append(kids, atom.Seq(0x30, atom.Int(g.Serial), when.Time(g.At)))
		}
		if got, ok := crl.Get(with(2, atom.Seq(0x30, kids...))); ok != crl.Is(got) {
			t.Error(i)
		}
	}
}

// P19.1
func TestGone(t *testing.T) {
	l := plain()
	for i, c := range []struct {
		serial api.Nat
		at     int64
		want   bool
	}{
		{api.Nat{5}, 9, false},
		{api.Nat{5}, 10, true},
		{api.Nat{5}, 11, true},
		{api.Nat{5}, math.MaxInt64, true},
		{api.Nat{5}, math.MinInt64, false},
		{api.Nat{6}, 1000, false},
		{api.Nat{7}, 19, false},
		{api.Nat{7}, 20, true},
		{api.Nat{1 << 31}, 0, true},
		{api.Nat{5, 1}, 1000, false},
		{nil, 1000, false},
	} {
		if crl.Gone(l, c.serial, c.at) != c.want {
			t.Error(i)
		}
	}
	if crl.Gone(api.Crl{}, api.Nat{5}, 1000) {
		t.Error("an empty row")
	}
}

// P19.1
func TestSame(t *testing.T) {
	l := append(good(), wrong()...)
	for i, a := range l {
		for j, b := range l {
			if crl.Same(a, b) != (i == j) {
				t.Error(i, j)
			}
		}
	}
	if !crl.Same(api.Crl{}, api.Crl{Issuer: []api.Attr{}, Gone: []api.Gone{}, Sig: []byte{}}) {
		t.Error("nil and empty are the same")
	}
}

// P19.2
func TestMemory(t *testing.T) {
	l, kept := plain(), plain()
	n := crl.Node(l)
	got, _ := crl.Get(n)
	got.Gone[0].Serial[0], got.Sig[0], got.Issuer[0].Text = 9, 9, "z"
	if !tlv.Same(n, crl.Node(kept)) {
		t.Error("Get shares memory")
	}
	n.Kids[1].Body[1] ^= 1
	n.Kids[0].Kids[2].Kids[0].Kids[0].Body[0] ^= 1
	crl.Digest(l)[0] ^= 1
	if !crl.Same(l, kept) || !bytes.Equal(crl.Digest(l), crl.Digest(kept)) {
		t.Error("Node shares memory")
	}
}
