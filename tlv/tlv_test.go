package tlv_test

import (
	"bytes"
	"math/rand"
	"testing"

	"apostille/api"
	"apostille/tlv"
)

// leaf is a primitive 04 of n bytes.
func leaf(n int) api.Node { return api.Node{Tag: 4, Body: make([]byte, n)} }

// seq is a constructed 30.
func seq(l ...api.Node) api.Node { return api.Node{Tag: 0x30, Kids: l} }

// nest is n things within one another.
func nest(n int) api.Node {
	x := leaf(0)
	for range n - 1 {
		x = seq(x)
	}
	return x
}

// many is a thing of n things in all.
func many(n int) api.Node {
	x := api.Node{Tag: 0x30}
	for range n - 1 {
		x.Kids = append(x.Kids, leaf(0))
	}
	return x
}

// P12.1
func TestBytes(t *testing.T) {
	for i, c := range []struct {
		n    api.Node
		want []byte
	}{
		{seq(api.Node{Tag: 2, Body: []byte{5}}), []byte{0x30, 3, 2, 1, 5}},
		{leaf(0), []byte{4, 0}},
		{seq(), []byte{0x30, 0}},
		{leaf(127), append([]byte{4, 127}, make([]byte, 127)...)},
		{leaf(128), append([]byte{4, 0x81, 128}, make([]byte, 128)...)},
		{leaf(255), append([]byte{4, 0x81, 255}, make([]byte, 255)...)},
		{leaf(256), append([]byte{4, 0x82, 1, 0}, make([]byte, 256)...)},
		{api.Node{Tag: 0xa0, Kids: []api.Node{leaf(1), seq(leaf(0)), leaf(0)}}, []byte{0xa0, 9, 4, 1, 0, 0x30, 2, 4, 0, 4, 0}},
		{api.Node{Tag: 0x20}, []byte{0x20, 0}},
		{api.Node{Tag: 0xde, Body: []byte{1}}, []byte{0xde, 1, 1}},
	} {
		if got := tlv.Bytes(c.n); !bytes.Equal(got, c.want) {
			t.Errorf("%d: %x", i, got)
		}
		got, e := tlv.Read(c.want)
		if e != api.OK || !tlv.Same(got, c.n) {
			t.Errorf("%d: %v %v", i, got, e)
		}
	}
}

// P12.1
func TestIs(t *testing.T) {
	for i, c := range []struct {
		n    api.Node
		want bool
	}{
		{leaf(0), true},
		{api.Node{}, false},
		{api.Node{Tag: 0x1f}, false},
		{api.Node{Tag: 0x3f}, false},
		{api.Node{Tag: 0xff}, false},
		{api.Node{Tag: 0x1e}, true},
		{api.Node{Tag: 0xe0}, true},
		{api.Node{Tag: 4, Kids: []api.Node{leaf(0)}}, false},
		{api.Node{Tag: 4, Kids: []api.Node{}}, true},
		{api.Node{Tag: 0x30, Body: []byte{1}}, false},
		{api.Node{Tag: 0x30, Body: []byte{}}, true},
		{seq(leaf(1), api.Node{Tag: 0}), false},
		{seq(api.Node{Tag: 0}, leaf(1)), false},
		{seq(seq(api.Node{Tag: 0x1f}, leaf(1)), leaf(1)), false},
		{seq(seq(seq(api.Node{Tag: 0x1f}))), false},
		{nest(12), true},
		{nest(13), false},
		{nest(60000), false},
		{many(600), true},
		{many(601), false},
		{seq(many(300), many(300)), false},
		{seq(many(300), many(299)), true},
		{leaf(11996), true},
		{leaf(11997), false},
		{seq(leaf(5988), leaf(6000)), true},
		{seq(leaf(5988), leaf(6001)), false},
		{seq(leaf(5988), leaf(4000), leaf(1996-8)), true},
	} {
		if tlv.Is(c.n) != c.want {
			t.Error(i)
		}
		if b := tlv.Bytes(c.n); (b != nil) != c.want || len(b) > api.MaxPack {
			t.Error("Bytes", i, len(b))
		}
	}
}

// P12.1
func TestReadRefuses(t *testing.T) {
	great := make([]byte, api.MaxPack+1)
	copy(great, []byte{4, 0x82, 0x2e, 0xdd})
	for i, c := range []struct {
		b    []byte
		want api.Errno
	}{
		{nil, api.ErrForm},
		{[]byte{}, api.ErrForm},
		{[]byte{0, 0}, api.ErrForm},
		{[]byte{0x1f, 0}, api.ErrForm},
		{[]byte{0x3f, 0}, api.ErrForm},
		{[]byte{4}, api.ErrForm},
		{[]byte{4, 1}, api.ErrForm},
		{[]byte{4, 0x80}, api.ErrForm},
		{[]byte{0x30, 0x80, 0, 0}, api.ErrForm},
		{[]byte{4, 0x81}, api.ErrForm},
		{append([]byte{4, 0x81, 127}, make([]byte, 127)...), api.ErrForm},
		{append([]byte{4, 0x82, 0, 128}, make([]byte, 128)...), api.ErrForm},
		{append([]byte{4, 0x82, 1}, make([]byte, 0)...), api.ErrForm},
		{append([]byte{4, 0x81, 128}, make([]byte, 127)...), api.ErrForm},
		{append([]byte{4, 0x81, 128}, make([]byte, 128)...), api.OK},
		{append([]byte{4, 0x81, 128}, make([]byte, 129)...), api.ErrForm},
		{append([]byte{4, 0xff}, bytes.Repeat([]byte{1}, 200)...), api.ErrForm},
		{append([]byte{4, 0x88}, bytes.Repeat([]byte{255}, 200)...), api.ErrForm},
		{append([]byte{4, 0x89, 1, 0, 0, 0, 0, 0, 0, 0}, make([]byte, 200)...), api.ErrForm},
		{append([]byte{4, 0x80}, make([]byte, 128)...), api.ErrForm},
		{[]byte{0x30, 4, 4, 0x81, 1, 5}, api.ErrForm},
		{[]byte{0x30, 5, 4, 0x83, 2, 255, 255}, api.ErrForm},
		{[]byte{0x30, 5, 4, 0x82, 1, 0, 0}, api.ErrForm},
		{[]byte{4, 0, 0}, api.ErrForm},
		{[]byte{4, 0, 4, 0}, api.ErrForm},
		{[]byte{0x30, 2, 4, 1, 5}, api.ErrForm},
		{[]byte{0x30, 1, 4, 0}, api.ErrForm},
		{[]byte{0x30, 3, 4, 0, 0}, api.ErrForm},
		{great, api.ErrLarge},
		{make([]byte, 100000), api.ErrLarge},
		{great[:api.MaxPack], api.ErrForm},
	} {
		n, e := tlv.Read(c.b)
		if e != c.want || e != api.OK && !tlv.Same(n, api.Node{}) {
			t.Error(i, e)
		}
	}
}

// raw is a thing's bytes, whether it is one or not; its lengths are below 2^16.
func raw(n api.Node) []byte {
	in := bytes.Clone(n.Body)
	for _, kid := range n.Kids {
		in = append(in, raw(kid)...)
	}
	switch {
	case len(in) < 128:
		return append([]byte{n.Tag, byte(len(in))}, in...)
	case len(in) < 256:
		return append([]byte{n.Tag, 0x81, byte(len(in))}, in...)
	}
	return append([]byte{n.Tag, 0x82, byte(len(in) >> 8), byte(len(in))}, in...)
}

// P12.1: which error is the first one, from left to right.
func TestFirstError(t *testing.T) {
	bad := api.Node{Tag: 0x1f}
	// What stands at a depth of 13, of which one wrong thing is said.
	at13 := func(b ...byte) []byte {
		for range 12 {
			b = append([]byte{0x30, byte(len(b))}, b...)
		}
		return b
	}
	full := many(600)
	for i, c := range []struct {
		b    []byte
		want api.Errno
	}{
		{raw(nest(13)), api.ErrDeep},
		{raw(seq(nest(12), bad)), api.ErrDeep},
		{raw(seq(bad, nest(12))), api.ErrForm},
		{raw(many(601)), api.ErrLarge},
		{raw(seq(many(599), bad)), api.ErrForm},
		{raw(seq(many(600), bad)), api.ErrLarge},
		{raw(seq(many(600), nest(12))), api.ErrLarge},
		{at13(0x1f, 0), api.ErrForm},
		{at13(4), api.ErrDeep},
		{at13(4, 0x80), api.ErrDeep},
		{append(raw(nest(13)), 0), api.ErrDeep},
		{append(raw(nest(12)), 0x1f), api.ErrForm},
		{append(raw(many(601)), 0), api.ErrLarge},
		{append(raw(full), 0), api.ErrForm},
		// The thing that is one too many: its tag, its depth, that it is one too many, its length.
		{raw(seq(many(598), api.Node{Tag: 0x30, Body: []byte{0x1f, 0}})), api.ErrForm},
		{raw(seq(many(598), api.Node{Tag: 0x30, Body: []byte{4, 9}})), api.ErrLarge},
		{raw(seq(many(597), api.Node{Tag: 0x30, Body: []byte{4, 9}})), api.ErrForm},
		{raw(seq(many(599), api.Node{Tag: 0x30, Body: []byte{4, 9}})), api.ErrLarge},
		{raw(seq(many(599), api.Node{Tag: 0x3f, Body: []byte{0x1f, 9}})), api.ErrForm},
	} {
		if n, e := tlv.Read(c.b); e != c.want || !tlv.Same(n, api.Node{}) {
			t.Error(i, e)
		}
	}
	// Too deep, and one too many: it is too deep first.
	deep := leaf(0)
	for range 11 {
		deep = seq(deep)
	}
	both := seq(many(600-12), deep)
	if tlv.Count(both) != 601 {
		t.Fatal(tlv.Count(both))
	}
	if _, e := tlv.Read(raw(both)); e != api.ErrDeep {
		t.Error("too deep comes ahead of too many", e)
	}
}

// P12.1
func TestCountAndSame(t *testing.T) {
	for i, c := range []struct {
		n    api.Node
		want int
	}{{leaf(5), 1}, {api.Node{}, 1}, {many(700), 700}, {nest(60000), 60000}, {seq(many(3), seq(), leaf(1)), 6}} {
		if got := tlv.Count(c.n); got != c.want {
			t.Error(i, got)
		}
	}
	l := []api.Node{{}, leaf(0), leaf(1), {Tag: 4, Body: []byte{1}}, seq(), seq(leaf(0)), seq(leaf(0), leaf(0)), seq(seq(leaf(0))), {Tag: 0x31}, {Tag: 5}}
	for i, a := range l {
		for j, b := range l {
			if tlv.Same(a, b) != (i == j) {
				t.Error(i, j)
			}
		}
	}
	if !tlv.Same(api.Node{Tag: 4, Body: []byte{}, Kids: []api.Node{}}, api.Node{Tag: 4}) || !tlv.Same(nest(60000), nest(60000)) {
		t.Error("Same")
	}
}

// some is a thing of any kind.
func some(r *rand.Rand, deep int) api.Node {
	if deep == 0 || r.Intn(3) == 0 {
		b := make([]byte, r.Intn(10)*r.Intn(30))
		r.Read(b)
		return api.Node{Tag: byte(1 + r.Intn(30)), Body: b}
	}
	n := api.Node{Tag: 0x20 | byte(r.Intn(8)<<5|r.Intn(31))}
	for range r.Intn(5) {
		n.Kids = append(n.Kids, some(r, deep-1))
	}
	return n
}

// P12.2
func TestReadOfBytes(t *testing.T) {
	r := rand.New(rand.NewSource(12))
	for range 2000 {
		n := some(r, 6)
		b := tlv.Bytes(n)
		if tlv.Is(n) != (b != nil) || b == nil {
			continue
		}
		if !bytes.Equal(b, raw(n)) {
			t.Fatal("Bytes", n)
		}
		got, e := tlv.Read(b)
		if e != api.OK || !tlv.Same(got, n) {
			t.Fatal(e, n)
		}
	}
	for _, n := range []api.Node{nest(12), many(600), leaf(11996)} {
		if got, e := tlv.Read(tlv.Bytes(n)); e != api.OK || !tlv.Same(got, n) {
			t.Error("at the edge", e)
		}
	}
}

// P12.2: whatever was read, its bytes are what was read.
func TestBytesOfRead(t *testing.T) {
	r := rand.New(rand.NewSource(13))
	read := 0
	for range 4000 {
		b := raw(some(r, 4))
		for range r.Intn(3) {
			b[r.Intn(len(b))] = byte(r.Intn(256))
		}
		n, e := tlv.Read(b)
		if e != api.OK {
			continue
		}
		read++
		if !tlv.Is(n) || !bytes.Equal(tlv.Bytes(n), b) {
			t.Fatalf("%x", b)
		}
	}
	if read < 500 {
		t.Error("few were read", read)
	}
}

// P12.2
func TestMemory(t *testing.T) {
	b := []byte{0x30, 5, 4, 3, 1, 2, 3}
	kept := bytes.Clone(b)
	n, _ := tlv.Read(b)
	n.Kids[0].Body[0] = 9
	if !bytes.Equal(b, kept) {
		t.Error("what is handed in is changed")
	}
	b[5] = 7
	if n.Kids[0].Body[1] != 2 {
		t.Error("what is handed in is kept")
	}
	tlv.Bytes(n)[4] = 77
	if n.Kids[0].Body[0] != 9 {
		t.Error("memory is shared")
	}
}
