package play_test

import (
	"bytes"
	"math"
	"slices"
	"testing"

	"apostille/api"
	"apostille/play"
	"apostille/sample"
)

const now = 5000

func file(name string, c byte, n int) api.File {
	return api.File{Name: name, Data: bytes.Repeat([]byte{c}, n)}
}

func install(b []byte) api.Act    { return api.Act{Kind: 1, Pack: b, Now: now} }
func arm(at int) api.Act          { return api.Act{Kind: 2, Crash: api.Crash{At: at}} }
func start() api.Act              { return api.Act{Kind: 3} }
func query() api.Act              { return api.Act{Kind: 4} }
func falter(at int) api.Act       { return api.Act{Kind: 5, Crash: api.Crash{At: at}} }
func told(e api.Errno) api.Answer { return api.Answer{Err: e} }

// same tells whether two lists of answers are one.
func same(a, b []api.Answer) bool {
	return slices.EqualFunc(a, b, func(x, y api.Answer) bool {
		one := func(f, g api.File) bool { return f.Name == g.Name && bytes.Equal(f.Data, g.Data) }
		return x.Err == y.Err && x.Counter == y.Counter && x.Name == y.Name && slices.EqualFunc(x.Files, y.Files, one)
	})
}

// P29.1
func TestNothing(t *testing.T) {
	trust := sample.NewHouse().Trust()
	for i, s := range []play.Story{
		play.Run(0, trust, query()),
		play.Run(math.MinInt, trust, query()),
		play.Run(197, trust, query()),
		play.Run(api.MaxDisk+1, trust, query()),
		play.Run(300, api.Trust{}, query()),
	} {
		if s.Up || s.Told != nil || !same([]api.Answer{s.Last}, []api.Answer{{}}) {
			t.Error(i, s)
		}
	}
	for _, n := range []int{198, api.MaxDisk} {
		if s := play.Run(n, trust); !s.Up || len(s.Told) != 0 || !same([]api.Answer{s.Last}, []api.Answer{{}}) {
			t.Error(n, s)
		}
	}
}

// P29.1
func TestActs(t *testing.T) {
	h := sample.NewHouse()
	one, two := h.Bytes("one", 3, file("x", 'a', 70)), h.Bytes("two", 4, file("y", 'b', 2))
	isOne := api.Answer{Counter: 3, Name: "one", Files: []api.File{file("x", 'a', 70)}}
	isTwo := api.Answer{Counter: 4, Name: "two", Files: []api.File{file("y", 'b', 2)}}
	ok, crash := told(api.OK), told(api.ErrCrash)
	late := install(two)
	late.Now = sample.Till + 1
	for i, c := range []struct {
		acts []api.Act
		want []api.Answer
		last api.Answer
		up   bool
	}{
		{nil, nil, ok, true},
		{[]api.Act{query(), install(one), query()}, []api.Answer{ok, ok, isOne}, isOne, true},
		{[]api.Act{install(one), install(two), query(), start(), query()}, []api.Answer{ok, ok, isTwo, ok, isTwo}, isTwo, true},
		{[]api.Act{install(one), install(one), install(nil), late}, []api.Answer{ok, told(api.ErrBack), told(api.ErrForm), told(api.ErrChain)}, isOne, true},
		{[]api.Act{{}, {Kind: 6}, {Kind: -1}, {Kind: math.MaxInt}}, []api.Answer{told(api.ErrArg), told(api.ErrArg), told(api.ErrArg), told(api.ErrArg)}, ok, true},
		// Armed at 0: the next operation, since there were some already.
		{[]api.Act{arm(0), query(), install(one), query(), install(one), arm(5), {Kind: 9}}, []api.Answer{ok, ok, crash, crash, crash, ok, told(api.ErrArg)}, ok, false},
		{[]api.Act{install(one), arm(0), install(two), start(), query()}, []api.Answer{ok, ok, crash, ok, isOne}, isOne, true},
		// What is refused ahead of the disk is no operation.
		{[]api.Act{install(one), arm(0), install(one), query(), install(two), query()}, []api.Answer{ok, ok, told(api.ErrBack), isOne, crash, crash}, ok, false},
		// Restart disarms.
		{[]api.Act{arm(0), start(), install(one)}, []api.Answer{ok, ok, ok}, isOne, true},
		// Nothing is to be done as it starts: the crash that is armed comes with the install.
		{[]api.Act{install(one), falter(0), query(), install(two), start()}, []api.Answer{ok, ok, isOne, crash, ok}, isOne, true},
		{[]api.Act{install(one), falter(4), install(two), falter(0), query(), start()}, []api.Answer{ok, ok, crash, ok, isOne, ok}, isOne, true},
		{[]api.Act{install(one), falter(7), install(two), falter(0), query(), start(), query()}, []api.Answer{ok, ok, crash, crash, crash, ok, isOne}, isOne, true},
		{[]api.Act{install(one), falter(7), install(two), falter(1)}, []api.Answer{ok, ok, crash, crash}, ok, false},
	} {
		s := play.Run(240, h.Trust(), c.acts...)
		if !same(s.Told, c.want) || !same([]api.Answer{s.Last}, []api.Answer{c.last}) || s.Up != c.up {
			t.Error(i, s)
		}
	}
}

// P29.2
func TestUnchanged(t *testing.T) {
	h := sample.NewHouse()
	trust := h.Trust()
	one := h.Bytes("one", 3, file("x", 'a', 70))
	keep := []bool{true, false}
	acts := []api.Act{install(one), {Kind: 2, Crash: api.Crash{At: 1, Keep: keep}}, install(one), start()}
	s := play.Run(240, trust, acts...)
	if !bytes.Equal(one, h.Bytes("one", 3, file("x", 'a', 70))) || !slices.Equal(keep, []bool{true, false}) || len(trust.Anchors) != 1 || !bytes.Equal(trust.Pin, h.Trust().Pin) {
		t.Error("what is handed in is changed")
	}
	again := play.Run(240, trust, acts...)
	if !same(s.Told, again.Told) || !same([]api.Answer{s.Last}, []api.Answer{again.Last}) {
		t.Error("the same script tells something else")
	}
	again.Last.Files[0].Data[0] = 'z'
	if s.Last.Files[0].Data[0] == 'z' {
		t.Error("memory is shared")
	}
}
