package node_test

import (
	"bytes"
	"math"
	"reflect"
	"strings"
	"testing"

	"apostille/api"
	"apostille/node"
)

// run is n places from one on.
func run(from, n int) []int {
	var l []int
	for k := range n {
		l = append(l, from+k)
	}
	return l
}

// P3.1
func TestNeed(t *testing.T) {
	for size, want := range map[int]int{math.MinInt: 0, -1: 0, 0: 0, 1: 1, 64: 1, 65: 2, 128: 2, 129: 3, 600: 10, math.MaxInt: math.MaxInt/64 + 1} {
		if got := node.Need(size); got != want {
			t.Errorf("Need(%d): %d", size, got)
		}
	}
}

// P3.1
func TestIs(t *testing.T) {
	for i, c := range []struct {
		n    node.Node
		want bool
	}{
		{node.Node{Name: "a"}, true},
		{node.Node{Name: strings.Repeat("~", 40), Size: 600, Places: run(65526, 10)}, true},
		{node.Node{Name: "!", Size: 1, Places: []int{0}}, true},
		{node.Node{Name: ""}, false},
		{node.Node{Name: strings.Repeat("a", 41)}, false},
		{node.Node{Name: "a b"}, false},
		{node.Node{Name: "a\x7f"}, false},
		{node.Node{Name: "\x80"}, false},
		{node.Node{Name: "é"}, false},
		{node.Node{Name: "a", Size: -1}, false},
		{node.Node{Name: "a", Size: 601, Places: run(0, 10)}, false},
		{node.Node{Name: "a", Size: math.MaxInt}, false},
		{node.Node{Name: "a", Size: 64, Places: run(1, 2)}, false},
		{node.Node{Name: "a", Size: 65, Places: run(1, 1)}, false},
		{node.Node{Name: "a", Places: run(1, 1)}, false},
		{node.Node{Name: "a", Size: 1, Places: []int{-1}}, false},
		{node.Node{Name: "a", Size: 1, Places: []int{65536}}, false},
		{node.Node{Name: "a", Size: 129, Places: []int{5, 6, 5}}, false},
	} {
		if node.Is(c.n) != c.want {
			t.Errorf("%d: Is(%v)", i, c.n)
		}
		if (node.Bytes(c.n) != nil) != c.want {
			t.Errorf("%d: Bytes(%v)", i, c.n)
		}
	}
}

// P3.1
func TestBytes(t *testing.T) {
	want := make([]byte, 64)
	copy(want, "\x03a/b")
	copy(want[41:], "\x00\x82\x00\x28\xff\xff\x01\x02")
	if got := node.Bytes(node.Node{Name: "a/b", Size: 130, Places: []int{40, 65535, 258}}); !bytes.Equal(got, want) {
		t.Errorf("%q", got)
	}
}

// P3.1
func TestReadRefuses(t *testing.T) {
	good := node.Bytes(node.Node{Name: "ab", Size: 65, Places: []int{7, 9}})
	if _, free, ok := node.Read(make([]byte, 64)); !free || !ok {
		t.Error("a sector of noughts is free")
	}
	for _, b := range [][]byte{nil, {}, make([]byte, 63), make([]byte, 65), good[:63], append(bytes.Clone(good), 0)} {
		if n, free, ok := node.Read(b); free || ok || !reflect.DeepEqual(n, node.Node{}) {
			t.Errorf("%d bytes", len(b))
		}
	}
	for _, c := range []struct {
		at int
		to byte
	}{{0, 0}, {0, 1}, {0, 3}, {0, 41}, {0, 255}, {2, ' '}, {3, 'c'}, {40, 1}, {41, 255}, {41, 3}, {42, 0}, {42, 64}, {42, 193}, {46, 7}, {47, 1}, {62, 1}, {63, 1}} {
		b := bytes.Clone(good)
		b[c.at] = c.to
		n, free, ok := node.Read(b)
		if free || ok || !reflect.DeepEqual(n, node.Node{}) {
			t.Errorf("byte %d is %d: %v", c.at, c.to, n)
		}
	}
}

// P3.2
func TestReadOfBytes(t *testing.T) {
	for _, n := range []node.Node{
		{Name: "a"},
		{Name: "state", Size: 1, Places: []int{40}},
		{Name: strings.Repeat("z", 40), Size: api.MaxFile, Places: run(65526, 10)},
		{Name: "x", Size: 64, Places: []int{0}},
	} {
		b := node.Bytes(n)
		got, free, ok := node.Read(b)
		if free || !ok || !reflect.DeepEqual(got, n) {
			t.Errorf("%v: %v", n, got)
		}
		for i := range b {
			b[i] = 1
		}
		if !reflect.DeepEqual(got, n) {
			t.Error("memory is shared")
		}
	}
}
