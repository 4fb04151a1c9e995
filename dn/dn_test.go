package dn_test

import (
	"bytes"
	"math"
	"strings"
	"testing"

	"apostille/api"
	"apostille/atom"
	"apostille/dn"
	"apostille/tlv"
)

// one is a part of a name as a thing.
func one(kind byte, text string) api.Node {
	return atom.Seq(0x31, atom.Seq(0x30, atom.ID([]byte{0x55, 4, kind}), atom.Text(text)))
}

// names is lists that are names.
func names() [][]api.Attr {
	return [][]api.Attr{
		{{Kind: 3, Text: "c"}},
		{{Kind: 10, Text: "o"}, {Kind: 3, Text: "c"}},
		{{Kind: 3, Text: "c"}, {Kind: 10, Text: "o"}},
		{{Kind: 10, Text: "o"}},
		{{Kind: 11, Text: "o"}},
		{{Kind: 6, Text: strings.Repeat("é", 32)}, {Kind: 11, Text: strings.Repeat("x", 64)}, {Kind: 3, Text: "\x00"}, {Kind: 3, Text: "c"}},
		{{Kind: 3, Text: "c"}, {Kind: 3, Text: "c"}},
	}
}

// wrong is lists that are none.
func wrong() [][]api.Attr {
	five := make([]api.Attr, 5)
	for i := range five {
		five[i] = api.Attr{Kind: 3, Text: "c"}
	}
	return [][]api.Attr{
		nil,
		{},
		five,
		{{Kind: 3}},
		{{Kind: 3, Text: "c"}, {Kind: 3, Text: ""}},
		{{Kind: 0, Text: "c"}},
		{{Kind: 4, Text: "c"}},
		{{Kind: 12, Text: "c"}},
		{{Kind: 259, Text: "c"}},
		{{Kind: -253, Text: "c"}},
		{{Kind: math.MaxInt, Text: "c"}},
		{{Kind: math.MinInt, Text: "c"}},
		{{Kind: 3, Text: strings.Repeat("x", 65)}},
		{{Kind: 3, Text: "\xff"}},
		{{Kind: 3, Text: "\xed\xa0\x80"}},
	}
}

// P15.1
func TestIs(t *testing.T) {
	for i, l := range names() {
		if !dn.Is(l) {
			t.Error(i)
		}
	}
	for i, l := range wrong() {
		if dn.Is(l) {
			t.Error(i)
		}
		dn.Node(l)
	}
}

// P15.1
func TestNode(t *testing.T) {
	got := dn.Node([]api.Attr{{Kind: 10, Text: "o"}, {Kind: 3, Text: "c"}})
	if !tlv.Same(got, atom.Seq(0x30, one(10, "o"), one(3, "c"))) {
		t.Error(got)
	}
	want := []byte{0x30, 24, 0x31, 10, 0x30, 8, 6, 3, 0x55, 4, 10, 12, 1, 'o', 0x31, 10, 0x30, 8, 6, 3, 0x55, 4, 3, 12, 1, 'c'}
	if b := tlv.Bytes(got); !bytes.Equal(b, want) {
		t.Errorf("%x", b)
	}
}

// P15.1, P15.2
func TestGet(t *testing.T) {
	for i, l := range names() {
		got, ok := dn.Get(dn.Node(l))
		if !ok || !dn.Same(got, l) {
			t.Error(i, got)
		}
		got[0].Text = "other"
		if again, _ := dn.Get(dn.Node(l)); !dn.Same(again, l) {
			t.Error("memory is shared", i)
		}
	}
	pair := atom.Seq(0x30, atom.ID([]byte{0x55, 4, 3}), atom.Text("c"))
	for i, n := range []api.Node{
		{},
		atom.Seq(0x30),
		atom.Seq(0x31, one(3, "c")),
		atom.Seq(0x30, one(3, "c"), one(3, "c"), one(3, "c"), one(3, "c"), one(3, "c")),
		atom.Seq(0x30, one(3, "")),
		atom.Seq(0x30, one(4, "c")),
		atom.Seq(0x30, one(3, strings.Repeat("x", 65))),
		atom.Seq(0x30, one(3, "\xff")),
		atom.Seq(0x30, pair),
		atom.Seq(0x30, atom.Seq(0x31)),
		atom.Seq(0x30, atom.Seq(0x30, pair)),
		atom.Seq(0x30, atom.Seq(0x31, pair, pair)),
		atom.Seq(0x30, atom.Seq(0x31, atom.Seq(0x31, pair.Kids...))),
		atom.Seq(0x30, atom.Seq(0x31, atom.Seq(0x30))),
		atom.Seq(0x30, atom.Seq(0x31, atom.Seq(0x30, pair.Kids[0]))),
		atom.Seq(0x30, atom.Seq(0x31, atom.Seq(0x30, pair.Kids[1], pair.Kids[0]))),
		atom.Seq(0x30, atom.Seq(0x31, atom.Seq(0x30, pair.Kids[0], pair.Kids[1], pair.Kids[1]))),
		atom.Seq(0x30, atom.Seq(0x31, atom.Seq(0x30, atom.ID([]byte{0x55, 5, 3}), pair.Kids[1]))),
		atom.Seq(0x30, atom.Seq(0x31, atom.Seq(0x30, atom.ID([]byte{0x55, 4, 3, 3}), pair.Kids[1]))),
		atom.Seq(0x30, atom.Seq(0x31, atom.Seq(0x30, atom.ID([]byte{0x55, 4}), pair.Kids[1]))),
		atom.Seq(0x30, atom.Seq(0x31, atom.Seq(0x30, atom.Octets([]byte{0x55, 4, 3}), pair.Kids[1]))),
		atom.Seq(0x30, atom.Seq(0x31, atom.Seq(0x30, pair.Kids[0], atom.Octets([]byte("c"))))),
		atom.Octets([]byte("c")),
		{Tag: 0x30, Body: []byte{1}, Kids: []api.Node{one(3, "c")}},
	} {
		if l, ok := dn.Get(n); ok || l != nil {
			t.Error(i, l)
		}
	}
}

// P15.1
func TestSameAndUnder(t *testing.T) {
	l := append(names(), wrong()[1], []api.Attr{{Kind: 4, Text: "c"}})
	for i, a := range l {
		for j, b := range l {
			if dn.Same(a, b) != (i == j) {
				t.Error("Same", i, j)
			}
		}
		if !dn.Under(a, a) || !dn.Under(a, nil) || dn.Under(nil, a) != (len(a) == 0) {
			t.Error("Under", i)
		}
	}
	o, c := api.Attr{Kind: 10, Text: "o"}, api.Attr{Kind: 3, Text: "c"}
	for i, x := range []struct {
		a, b []api.Attr
		want bool
	}{
		{[]api.Attr{o, c}, []api.Attr{o}, true},
		{[]api.Attr{o, c}, []api.Attr{c}, false},
		{[]api.Attr{o}, []api.Attr{o, c}, false},
		{[]api.Attr{o, c, o}, []api.Attr{o, c}, true},
		{[]api.Attr{o, c, o}, []api.Attr{c, o}, false},
		{[]api.Attr{o, c}, []api.Attr{{Kind: 11, Text: "o"}}, false},
		{[]api.Attr{o, c}, []api.Attr{{Kind: 10, Text: "O"}}, false},
	} {
		if dn.Under(x.a, x.b) != x.want {
			t.Error(i)
		}
	}
	if !dn.Same(nil, []api.Attr{}) {
		t.Error("nil and empty are the same")
	}
}
