package atom_test

import (
	"bytes"
	"math"
	"slices"
	"strings"
	"testing"

	"apostille/api"
	"apostille/atom"
	"apostille/nat"
	"apostille/tlv"
)

// prim is a primitive of bytes.
func prim(tag byte, b ...byte) api.Node { return api.Node{Tag: tag, Body: b} }

// odd is a thing with kids and a body.
func odd(tag byte, b ...byte) api.Node {
	return api.Node{Tag: tag, Body: b, Kids: []api.Node{prim(4)}}
}

// full is a number of n bytes, each ff.
func full(n int) api.Nat { return nat.Of(bytes.Repeat([]byte{255}, n)) }

// P13.1, P13.2
func TestInt(t *testing.T) {
	for i, c := range []struct {
		a    api.Nat
		want []byte
	}{
		{nil, []byte{0}},
		{api.Nat{1}, []byte{1}},
		{api.Nat{127}, []byte{127}},
		{api.Nat{128}, []byte{0, 128}},
		{api.Nat{255}, []byte{0, 255}},
		{api.Nat{256}, []byte{1, 0}},
		{api.Nat{0x7fff}, []byte{0x7f, 0xff}},
		{api.Nat{0x8000}, []byte{0, 0x80, 0}},
		{api.Nat{0, 1}, []byte{1, 0, 0, 0, 0}},
		{api.Nat{0, 0x80000000}, []byte{0, 0x80, 0, 0, 0, 0, 0, 0, 0}},
		{full(1024), append([]byte{0}, bytes.Repeat([]byte{255}, 1024)...)},
	} {
		n := atom.Int(c.a)
		if !tlv.Same(n, prim(2, c.want...)) {
			t.Error(i, n)
		}
		for most, ok := range map[int]bool{len(c.want): true, len(c.want) - 1: false, math.MaxInt: true, -1: false, math.MinInt: false, 0: false} {
			got, is := atom.GetInt(n, most)
			if is != ok || ok && !slices.Equal(got, c.a) || !ok && got != nil {
				t.Error(i, most, got)
			}
		}
	}
}

// P13.1
func TestGetIntRefuses(t *testing.T) {
	for i, n := range []api.Node{
		{}, prim(2), prim(2, 0, 0), prim(2, 0, 127), prim(2, 0, 0, 128), prim(2, 128), prim(2, 255, 1),
		prim(3, 1), prim(4, 1), odd(2, 1), {Tag: 0x22},
		prim(2, append([]byte{1}, make([]byte, 1024)...)...),
		prim(2, append([]byte{0, 128}, make([]byte, 1024)...)...),
		prim(2, make([]byte, 1025)...),
	} {
		if got, ok := atom.GetInt(n, math.MaxInt); ok || got != nil {
			t.Error(i, got)
		}
		if got, ok := atom.GetSmall(n); ok || got != 0 {
			t.Error(i, got)
		}
	}
}

// P13.1, P13.2
func TestSmall(t *testing.T) {
	for v, want := range map[uint64][]byte{0: {0}, 1: {1}, 127: {127}, 128: {0, 128}, 1 << 32: {1, 0, 0, 0, 0}, math.MaxInt64: {127, 255, 255, 255, 255, 255, 255, 255}, math.MaxUint64: {0, 255, 255, 255, 255, 255, 255, 255, 255}} {
		n := atom.Small(v)
		if !tlv.Same(n, prim(2, want...)) {
			t.Error(v, n)
		}
		if got, ok := atom.GetSmall(n); !ok || got != v {
			t.Error(v, got)
		}
	}
	if _, ok := atom.GetSmall(prim(2, 1, 0, 0, 0, 0, 0, 0, 0, 0)); ok {
		t.Error("2^64")
	}
}

// P13.1, P13.2
func TestBool(t *testing.T) {
	if !tlv.Same(atom.Bool(true), prim(1, 255)) || !tlv.Same(atom.Bool(false), prim(1, 0)) {
		t.Error("Bool")
	}
	for _, v := range []bool{true, false} {
		if got, ok := atom.GetBool(atom.Bool(v)); !ok || got != v {
			t.Error(v)
		}
	}
	for i, n := range []api.Node{{}, prim(1), prim(1, 1), prim(1, 254), prim(1, 255, 255), prim(1, 0, 0), prim(2, 255), odd(1, 255)} {
		if v, ok := atom.GetBool(n); v || ok {
			t.Error(i)
		}
	}
}

// P13.1, P13.2
func TestText(t *testing.T) {
	for _, s := range []string{"", "a", "é", "日本", "\x00", "\u007f\u0080\u07ff\u0800\uffff\U00010000\U0010ffff", "\ud7ff\ue000", strings.Repeat("x", 64), strings.Repeat("é", 32)} {
		n := atom.Text(s)
		if !tlv.Same(n, prim(12, []byte(s)...)) {
			t.Error(s, n)
		}
		if got, ok := atom.GetText(n); !ok || got != s {
			t.Errorf("%q", s)
		}
	}
	for _, s := range []string{strings.Repeat("x", 65), strings.Repeat("é", 33), "\x80", "\xc0\x80", "\xc1\xbf", "\xe0\x9f\xbf", "\xed\xa0\x80", "\xed\xbf\xbf", "\xf0\x8f\xbf\xbf", "\xf4\x90\x80\x80", "\xf5\x80\x80\x80", "\xc3", "a\xff"} {
		n := atom.Text(s)
		if !tlv.Same(n, prim(12, []byte(s)...)) {
			t.Errorf("the thing all the same: %q", s)
		}
		if got, ok := atom.GetText(n); ok || got != "" {
			t.Errorf("%q", s)
		}
	}
	for i, n := range []api.Node{{}, prim(4, 'a'), prim(0x13, 'a'), odd(12, 'a'), {Tag: 0x2c}} {
		if _, ok := atom.GetText(n); ok {
			t.Error(i)
		}
	}
}

// P13.1, P13.2
func TestOctetsAndBits(t *testing.T) {
	for _, b := range [][]byte{nil, {0}, {1, 2, 3}, make([]byte, 5000)} {
		o, d := atom.Octets(b), atom.Bits(b)
		if !tlv.Same(o, prim(4, b...)) || !tlv.Same(d, prim(3, append([]byte{0}, b...)...)) {
			t.Error(len(b))
		}
		if got, ok := atom.GetOctets(o); !ok || !bytes.Equal(got, b) {
			t.Error(len(b))
		}
		if got, ok := atom.GetBits(d); !ok || !bytes.Equal(got, b) {
			t.Error(len(b))
		}
	}
	for i, n := range []api.Node{{}, prim(3, 0), odd(4, 1), {Tag: 0x24}} {
		if got, ok := atom.GetOctets(n); ok || got != nil {
			t.Error(i)
		}
	}
	for i, n := range []api.Node{{}, prim(4, 0), prim(3), prim(3, 1, 2), prim(3, 7), odd(3, 0), {Tag: 0x23}} {
		if got, ok := atom.GetBits(n); ok || got != nil {
			t.Error(i)
		}
	}
}

// P13.1, P13.2
func TestID(t *testing.T) {
	for i, b := range [][]byte{{0}, {0x55, 0x1d, 0x13}, {0x81, 0}, {0x81, 0x80, 0}, {0x81, 0x80, 0x80, 0}, {0xff, 0x7f, 0x85, 0x80, 0x01}, make([]byte, 20), {127}} {
		n := atom.ID(b)
		if got, ok := atom.GetID(n); !tlv.Same(n, prim(6, b...)) || !ok || !bytes.Equal(got, b) {
			t.Error(i)
		}
	}
	for i, b := range [][]byte{nil, {0x80}, {0x80, 1}, {1, 0x80, 1}, {1, 2, 0x81}, {0x81, 0x80}, make([]byte, 21), append(bytes.Repeat([]byte{0x81}, 20), 1)} {
		n := atom.ID(b)
		if !tlv.Same(n, prim(6, b...)) {
			t.Error("the thing all the same", i)
		}
		if got, ok := atom.GetID(n); ok || got != nil {
			t.Error(i)
		}
	}
	for i, n := range []api.Node{{}, prim(4, 1), odd(6, 1), {Tag: 0x26}} {
		if _, ok := atom.GetID(n); ok {
			t.Error(i)
		}
	}
}

// P13.1, P13.2
func TestSeq(t *testing.T) {
	a, b := prim(4, 1), atom.Seq(0x31)
	n := atom.Seq(0x30, a, b)
	if n.Tag != 0x30 || len(n.Body) != 0 || len(n.Kids) != 2 || !tlv.Same(n.Kids[0], a) || !tlv.Same(n.Kids[1], b) {
		t.Error(n)
	}
	for _, tag := range []byte{0x30, 0x31, 0xa0} {
		if l, ok := atom.GetSeq(atom.Seq(tag, a, b), tag); !ok || len(l) != 2 || !tlv.Same(l[0], a) || !tlv.Same(l[1], b) {
			t.Error(tag)
		}
		if l, ok := atom.GetSeq(atom.Seq(tag), tag); !ok || len(l) != 0 {
			t.Error(tag)
		}
	}
	for i, n := range []api.Node{{}, prim(0x30, 1), atom.Seq(0x31, a), odd(0x30, 1), a} {
		if l, ok := atom.GetSeq(n, 0x30); ok || l != nil {
			t.Error(i)
		}
	}
	if _, ok := atom.GetSeq(atom.Octets(nil), 4); ok {
		t.Error("a primitive")
	}
}

// P13.2
func TestMemory(t *testing.T) {
	b := []byte{1, 2, 3}
	made := []api.Node{atom.Octets(b), atom.Bits(b), atom.ID(b)}
	o, _ := atom.GetOctets(made[0])
	d, _ := atom.GetBits(made[1])
	id, _ := atom.GetID(made[2])
	for _, x := range [][]byte{o, d, id} {
		x[0] = 9
	}
	if !bytes.Equal(made[0].Body, b) || !bytes.Equal(made[1].Body[1:], b) || !bytes.Equal(made[2].Body, b) {
		t.Error("a Get shares memory")
	}
	for _, n := range made {
		n.Body[0] = 8
		n.Body[len(n.Body)-1] = 8
	}
	if !bytes.Equal(b, []byte{1, 2, 3}) {
		t.Error("what is handed in is shared")
	}
	l := []api.Node{prim(4, 1), prim(4, 2)}
	n := atom.Seq(0x30, l...)
	l[0] = prim(5)
	got, _ := atom.GetSeq(n, 0x30)
	got[1] = prim(5)
	if n.Kids[0].Tag != 4 || n.Kids[1].Tag != 4 {
		t.Error("a list is shared")
	}
	a := api.Nat{5}
	x, _ := atom.GetInt(atom.Int(a), 4)
	x[0] = 6
	if a[0] != 5 {
		t.Error("a number is shared")
	}
}

// W1
func TestNoNumbers(t *testing.T) {
	for _, a := range []api.Nat{{0}, {5, 0}, make(api.Nat, 1000), append(full(1024), 1)} {
		atom.Int(a)
	}
}
