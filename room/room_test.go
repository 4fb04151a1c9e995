package room_test

import (
	"math"
	"reflect"
	"slices"
	"strconv"
	"testing"

	"apostille/api"
	"apostille/node"
	"apostille/room"
)

// at is a node of a name with places.
func at(name string, places ...int) node.Node {
	return node.Node{Name: name, Size: 64 * len(places), Places: places}
}

// nodes is n empty files.
func nodes(n int) []node.Node {
	var l []node.Node
	for k := range n {
		l = append(l, at("f"+strconv.Itoa(k)))
	}
	return l
}

// P4.1
func TestIs(t *testing.T) {
	for i, c := range []struct {
		l    []node.Node
		many int
		want bool
	}{
		{nil, 0, true},
		{[]node.Node{}, api.MaxDisk, true},
		{nil, -1, false},
		{nil, api.MaxDisk + 1, false},
		{nil, math.MaxInt, false},
		{nil, math.MinInt, false},
		{nodes(40), 0, true},
		{nodes(41), 0, false},
		{[]node.Node{at("a", 40, 41), at("b", 42)}, 43, true},
		{[]node.Node{at("a", 40, 41), at("b", 43)}, 43, false},
		{[]node.Node{at("a", 39)}, 43, false},
		{[]node.Node{at("a", 40, 41), at("b", 41)}, 43, false},
		{[]node.Node{at("a", 41, 41)}, 43, false},
		{[]node.Node{at("a", 40), at("a", 41)}, 43, false},
		{[]node.Node{at("")}, 43, false},
		{[]node.Node{{Name: "a", Size: 1}}, 43, false},
		{[]node.Node{at("a", -1)}, 43, false},
	} {
		if room.Is(c.l, c.many) != c.want {
			t.Errorf("%d: Is(%v, %d)", i, c.l, c.many)
		}
	}
}

// P4.1
func TestFree(t *testing.T) {
	for i, c := range []struct {
		l    []node.Node
		many int
		want []int
	}{
		{nil, 0, nil},
		{nil, 40, nil},
		{nil, 43, []int{40, 41, 42}},
		{[]node.Node{at("b", 44, 41), at("a", 42)}, 46, []int{40, 43, 45}},
		{[]node.Node{at("a", 40)}, 41, nil},
	} {
		if got := room.Free(c.l, c.many); !slices.Equal(got, c.want) {
			t.Errorf("%d: %v", i, got)
		}
	}
	if got := room.Free(nil, api.MaxDisk); len(got) != api.MaxDisk-40 {
		t.Error(len(got))
	}
}

// P4.1
func TestTake(t *testing.T) {
	l := []node.Node{at("b", 44, 41), at("a", 42)}
	for i, c := range []struct {
		want int
		got  []int
		ok   bool
	}{
		{0, nil, true},
		{1, []int{40}, true},
		{3, []int{40, 43, 45}, true},
		{4, nil, false},
		{-1, nil, false},
		{math.MaxInt, nil, false},
		{math.MinInt, nil, false},
	} {
		got, ok := room.Take(l, 46, c.want)
		if ok != c.ok || !slices.Equal(got, c.got) {
			t.Errorf("%d: Take %d: %v %v", i, c.want, got, ok)
		}
	}
}

// P4.2, and what is of no room at all
func TestUnchanged(t *testing.T) {
	l := []node.Node{at("b", 44, 41), at("a", 42)}
	want := []node.Node{at("b", 44, 41), at("a", 42)}
	room.Is(l, 46)
	free := room.Free(l, 46)
	taken, _ := room.Take(l, 46, 2)
	free[0], taken[0] = 7, 7
	if !reflect.DeepEqual(l, want) || !slices.Equal(room.Free(l, 46), []int{40, 43, 45}) {
		t.Error("what is handed in is changed")
	}
	for _, many := range []int{-5, math.MinInt, math.MaxInt, 3000} {
		room.Free(l, many)
		if _, ok := room.Take(l, many, 0); ok {
			t.Error(many)
		}
	}
}
