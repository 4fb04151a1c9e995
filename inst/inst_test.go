package inst_test

import (
	"bytes"
	"math"
	"strconv"
	"strings"
	"testing"

	"apostille/api"
	"apostille/atom"
	"apostille/dev"
	"apostille/fs"
	"apostille/inst"
	"apostille/sample"
	"apostille/tlv"
)

const (
	now     = 5000
	sectors = 157 // of a disk, ahead of its places
)

// file is a file of n bytes of one kind.
func file(name string, c byte, n int) api.File {
	return api.File{Name: name, Data: bytes.Repeat([]byte{c}, n)}
}

// tell is an answer as a text.
func tell(a api.Answer) string {
	if a.Err != api.OK {
		return a.Err.Error()
	}
	s := []string{a.Name + "#" + strconv.FormatUint(a.Counter, 10)}
	for _, f := range a.Files {
		kind := "-"
		if len(f.Data) > 0 {
			kind = string(f.Data[:1])
			if !bytes.Equal(f.Data, bytes.Repeat(f.Data[:1], len(f.Data))) {
				kind = "?"
			}
		}
		s = append(s, f.Name+"="+kind+strconv.Itoa(len(f.Data)))
	}
	return strings.Join(s, " ")
}

// names is the names of all files on a disk that is up.
func names(t *testing.T, d *dev.Disk) string {
	t.Helper()
	f, e := fs.Mount(d)
	if e != api.OK {
		t.Fatal(e)
	}
	var l []string
	for _, x := range f.List() {
		l = append(l, x.Name)
	}
	return strings.Join(l, " ")
}

// open is what a disk has installed.
func open(t *testing.T, d *dev.Disk, h sample.House) *inst.Inst {
	t.Helper()
	i, e := inst.Open(d, h.Trust())
	if e != api.OK || i == nil {
		t.Fatal(e)
	}
	return i
}

// blank is a formatted disk of so many places.
func blank(t *testing.T, many int) *dev.Disk {
	t.Helper()
	d := dev.New(sectors + many)
	if e := inst.Format(d); e != api.OK {
		t.Fatal(e)
	}
	return d
}

// P28.1
func TestFormatAndOpen(t *testing.T) {
	h := sample.NewHouse()
	if inst.Format(nil) != api.ErrCrash || inst.Format(dev.New(197)) != api.ErrRoom {
		t.Error("Format")
	}
	d := blank(t, 60)
	if got := open(t, d, h).Query(); tell(got) != "#0" {
		t.Error(tell(got))
	}
	d.Restart()
	for i, c := range []struct {
		d    *dev.Disk
		t    api.Trust
		want api.Errno
	}{
		{d, api.Trust{}, api.ErrArg},
		{nil, api.Trust{}, api.ErrArg},
		{nil, h.Trust(), api.ErrCrash},
		{dev.New(300), h.Trust(), api.ErrDisk},
		{dev.New(100), h.Trust(), api.ErrDisk},
	} {
		if x, e := inst.Open(c.d, c.t); x != nil || e != c.want {
			t.Error(i, e)
		}
	}
	if d.Ops() != 0 {
		t.Error("something was written")
	}
}

// P28.1: what `state` says, and what is stale.
func TestState(t *testing.T) {
	h := sample.NewHouse()
	good := func(side, counter uint64, name string) []byte {
		return tlv.Bytes(atom.Seq(0x30, atom.Small(side), atom.Small(counter), atom.Text(name)))
	}
	none := tlv.Bytes(atom.Seq(0x30, atom.Small(0), atom.Small(1)))
	for i, c := range []struct {
		state []byte
		want  api.Errno
		tells string
		left  string
	}{
		{nil, api.OK, "#0", ""},
		{good(0, 5, "x"), api.OK, "x#5 y=A1 z=B2", "a/y a/z state"},
		{good(1, math.MaxUint64, "x"), api.OK, "x#18446744073709551615 y=C3", "b/y state"},
		{good(2, 5, "x"), api.ErrDisk, "", ""},
		{good(0, 5, "\xff"), api.ErrDisk, "", ""},
		{none, api.ErrDisk, "", ""},
		{append(good(0, 5, "x"), 0), api.ErrDisk, "", ""},
		{[]byte{1}, api.ErrDisk, "", ""},
		{tlv.Bytes(atom.Seq(0x31, atom.Small(0), atom.Small(1), atom.Text("x"))), api.ErrDisk, "", ""},
		{tlv.Bytes(atom.Seq(0x30, atom.Small(0), atom.Small(1), atom.Text("x"), atom.Text("x"))), api.ErrDisk, "", ""},
		{tlv.Bytes(atom.Seq(0x30, atom.Small(0), atom.Int(api.Nat{0, 0, 1}), atom.Text("x"))), api.ErrDisk, "", ""},
	} {
		d := blank(t, 60)
		f, _ := fs.Mount(d)
		for _, x := range []api.File{file("a/z", 'B', 2), file("a/y", 'A', 1), file("b/y", 'C', 3), file("c/y", 'D', 1), file("statf", 'E', 1), file("a", 'F', 1)} {
			f.Do(api.Op{File: x})
		}
		all := "a a/y a/z b/y c/y statf"
		if c.state != nil {
			f.Do(api.Op{File: api.File{Name: "state", Data: c.state}})
			all = "a a/y a/z b/y c/y state statf"
		}
		d.Restart()
		x, e := inst.Open(d, h.Trust())
		if e != c.want || (x != nil) != (e == api.OK) {
			t.Error(i, e)
			continue
		}
		if e != api.OK {
			if names(t, d) != all {
				t.Error(i, "something was dropped")
			}
			continue
		}
		if tell(x.Query()) != c.tells || names(t, d) != c.left {
			t.Error(i, tell(x.Query()), names(t, d))
		}
		// Once what is stale is gone nothing is written.
		d.Restart()
		if tell(open(t, d, h).Query()) != c.tells || d.Ops() != 0 {
			t.Error(i, "opened anew", d.Ops())
		}
	}
}

// P28.2
func TestInstall(t *testing.T) {
	h := sample.NewHouse()
	d := blank(t, 200)
	i := open(t, d, h)
	// An empty file, no files, the same paths on the other side.
	for k, c := range []struct {
		b     []byte
		tells string
		left  string
	}{
		{h.Bytes("one", 5, file("x", 'a', 65), file("y/z", 'b', 0)), "one#5 x=a65 y/z=-0", "a/x a/y/z state"},
		{h.Bytes("two", 6, file("x", 'c', 600)), "two#6 x=c600", "b/x state"},
		{h.Bytes("two", 9, file("a", 'd', 1), file("b", 'e', 2)), "two#9 a=d1 b=e2", "a/a a/b state"},
		{h.Bytes("none", 10), "none#10", "state"},
		{h.Bytes("more", math.MaxUint64, file("a-b", '1', 1), file("a.b", '2', 1), file("a/b", '3', 1)), "more#18446744073709551615 a-b=11 a.b=21 a/b=31", "a/a-b a/a.b a/a/b state"},
	} {
		if e := i.Install(c.b, now); e != api.OK || tell(i.Query()) != c.tells || names(t, d) != c.left {
			t.Fatal(k, e, tell(i.Query()), names(t, d))
		}
		d.Restart()
		i = open(t, d, h)
		if tell(i.Query()) != c.tells || d.Ops() != 0 {
			t.Error("started anew", k)
		}
	}
}

// P28.2, P0.6
func TestInstallRefuses(t *testing.T) {
	h := sample.NewHouse()
	d := blank(t, 60)
	i := open(t, d, h)
	good := h.Bytes("one", 7, file("x", 'a', 3))
	stranger := h
	stranger.Leaf = sample.EC(77)
	look := func(want string) {
		t.Helper()
		for k, c := range []struct {
			b    []byte
			now  int64
			want api.Errno
		}{
			{nil, now, api.ErrForm},
			{good[:100], now, api.ErrForm},
			{make([]byte, api.MaxPack+1), now, api.ErrLarge},
			{stranger.Bytes("one", 8), now, api.ErrSign},
			{good, sample.Till + 1, api.ErrChain},
			{h.Bytes("one", 8, file("..", 'a', 1)), now, api.ErrName},
		} {
			before := d.Ops()
			if e := i.Install(c.b, c.now); e != c.want || tell(i.Query()) != want || d.Ops() != before {
				t.Error(k, e, tell(i.Query()))
			}
		}
	}
	look("#0")
	if e := i.Install(good, now); e != api.OK {
		t.Fatal(e)
	}
	look("one#7 x=a3")
	for _, counter := range []uint64{0, 6, 7} {
		if e := i.Install(h.Bytes("old", counter), now); e != api.ErrBack || tell(i.Query()) != "one#7 x=a3" {
			t.Error(counter, e)
		}
	}
}

// P28.2: a first one with counter 0, and none behind the greatest.
func TestCounters(t *testing.T) {
	h := sample.NewHouse()
	i := open(t, blank(t, 60), h)
	for k, c := range []struct {
		counter uint64
		want    api.Errno
	}{{0, api.OK}, {0, api.ErrBack}, {1, api.OK}, {0, api.ErrBack}, {math.MaxUint64, api.OK}, {math.MaxUint64, api.ErrBack}, {5, api.ErrBack}} {
		if e := i.Install(h.Bytes("x", c.counter), now); e != c.want {
			t.Error(k, e)
		}
	}
}

// P28.2: no room for the files, or for `state`.
func TestRoom(t *testing.T) {
	h := sample.NewHouse()
	one, two := h.Bytes("one", 1, file("x", 'a', 3)), h.Bytes("two", 2, file("x", 'b', 3))
	wide := h.Bytes("two", 2, file("x", 'b', 65))
	for i, c := range []struct {
		many int
		b    []byte
		want api.Errno
		ops  int // of the disk, behind the Install
	}{
		{42, two, api.ErrRoom, 0},
		// The file and its node are put in 11 operations, the node is dropped in 9.
		{43, two, api.ErrRoom, 11 + 9},
		{44, two, api.OK, -1},
		{43, wide, api.ErrRoom, 0},
		{45, wide, api.OK, -1},
	} {
		d := blank(t, c.many)
		x := open(t, d, h)
		if e := x.Install(one, now); e != api.OK {
			t.Fatal(e)
		}
		d.Restart()
		x = open(t, d, h)
		e := x.Install(c.b, now)
		if e != c.want || e != api.OK && (tell(x.Query()) != "one#1 x=a3" || names(t, d) != "a/x state") {
			t.Error(i, e, tell(x.Query()), names(t, d))
		}
		if c.ops >= 0 && d.Ops() != c.ops {
			t.Error(i, "operations", d.Ops())
		}
		// It may go on behind it.
		if e := x.Install(h.Bytes("0", 3), now); e != api.OK && c.many > 42 {
			t.Error(i, e)
		}
	}
	// The first one of all finds no room.
	d := blank(t, 41)
	x := open(t, d, h)
	if e := x.Install(one, now); e != api.ErrRoom || tell(x.Query()) != "#0" || names(t, d) != "" {
		t.Error(e, tell(x.Query()), names(t, d))
	}
}

// P28.2: a crash while what found no room is dropped is told instead.
func TestCrashInTakeBack(t *testing.T) {
	h := sample.NewHouse()
	seen := map[api.Errno]int{}
	for at := range 21 {
		d := blank(t, 43)
		open(t, d, h).Install(h.Bytes("one", 1, file("x", 'a', 3)), now)
		d.Restart()
		x := open(t, d, h)
		d.Arm(api.Crash{At: at, Keep: []bool{true}})
		e := x.Install(h.Bytes("two", 2, file("x", 'b', 3)), now)
		if e != api.ErrCrash && (e != api.ErrRoom || d.Down()) {
			t.Error(at, e)
		}
		seen[e]++
		d.Restart()
		if got := tell(open(t, d, h).Query()); got != "one#1 x=a3" || names(t, d) != "a/x state" {
			t.Error(at, got)
		}
	}
	if seen[api.ErrCrash] != 20 || seen[api.ErrRoom] != 1 {
		t.Error(seen)
	}
}

// image is all sectors of a disk.
func image(d *dev.Disk) [][]byte {
	var l [][]byte
	for i := range d.Size() {
		l = append(l, d.Read(i))
	}
	return l
}

// restored is a disk of such sectors.
func restored(l [][]byte) *dev.Disk {
	d := dev.New(len(l))
	for i, b := range l {
		d.Write(i, b)
	}
	d.Flush()
	d.Restart()
	return d
}

// keeps is what may be kept at a crash.
func keeps() [][]bool {
	all, even, odd := make([]bool, 300), make([]bool, 300), make([]bool, 300)
	for i := range all {
		all[i], even[i], odd[i] = true, i%2 == 0, i%2 == 1
	}
	return [][]bool{nil, all, even, odd, all[:2]}
}

// P28.3: wherever it crashes, in the Install or in the Open behind it.
func TestAllOrNothing(t *testing.T) {
	h := sample.NewHouse()
	d := blank(t, 60)
	open(t, d, h).Install(h.Bytes("one", 1, file("w", 'x', 70), file("x", 'a', 3)), now)
	before := image(d)
	old, next := "one#1 w=x70 x=a3", "two#2 v=b2 x=b70"
	b := h.Bytes("two", 2, file("v", 'b', 2), file("x", 'b', 70))
	ended, olds, news := false, 0, 0
	for at := 0; !ended; at++ {
		for _, keep := range keeps() {
			d := restored(before)
			x := open(t, d, h)
			d.Arm(api.Crash{At: at, Keep: keep})
			e := x.Install(b, now)
			ended = e == api.OK
			d.Restart()
			crashed := image(d)
			for again := range 30 {
				d := restored(crashed)
				d.Arm(api.Crash{At: again, Keep: keep})
				_, o := inst.Open(d, h.Trust())
				d.Restart()
				got := tell(open(t, d, h).Query())
				if got != next && (e == api.OK || got != old) {
					t.Fatal(at, keep, again, e, got)
				}
				d.Restart()
				if tell(open(t, d, h).Query()) != got || d.Ops() != 0 {
					t.Fatal("opened again")
				}
				if got == old {
					olds++
				} else {
					news++
				}
				if o == api.OK {
					break
				}
			}
		}
	}
	if olds < 20 || news < 20 {
		t.Error("not all was tried", olds, news)
	}
}

// P28.3: the first install of all.
func TestFirstAllOrNothing(t *testing.T) {
	h := sample.NewHouse()
	b := h.Bytes("one", 0, file("x", 'a', 3))
	before := image(blank(t, 50))
	ended := false
	for at := 0; !ended; at++ {
		for _, keep := range keeps() {
			d := restored(before)
			x := open(t, d, h)
			d.Arm(api.Crash{At: at, Keep: keep})
			e := x.Install(b, now)
			ended = e == api.OK
			d.Restart()
			x = open(t, d, h)
			got := tell(x.Query())
			if got != "one#0 x=a3" && (e == api.OK || got != "#0") {
				t.Fatal(at, e, got)
			}
			if e := x.Install(h.Bytes("two", 1), now); e != api.OK || tell(x.Query()) != "two#1" {
				t.Fatal("behind it", e)
			}
		}
	}
}

// P28.3
func TestMemory(t *testing.T) {
	h := sample.NewHouse()
	d := blank(t, 60)
	trust := h.Trust()
	i, _ := inst.Open(d, trust)
	trust.Pin[0] ^= 1
	trust.Anchors[0].Sig[0] ^= 1
	trust.Anchors[0].Subject[0].Text = "x"
	trust.Anchors[0].Key.P.X[0] ^= 1
	trust.Anchors = nil
	h = sample.NewHouse()
	b := h.Bytes("one", 1, file("x", 'a', 3))
	kept := bytes.Clone(b)
	if e := i.Install(b, now); e != api.OK {
		t.Error("trust is shared", e)
	}
	if !bytes.Equal(b, kept) {
		t.Error("what is handed in is changed")
	}
	for k := range b {
		b[k] = 0
	}
	a := i.Query()
	a.Files[0].Data[0] = 'z'
	a.Files[0].Name = "z"
	if tell(i.Query()) != "one#1 x=a3" {
		t.Error("memory is shared")
	}
}

// P28.3
func TestNil(t *testing.T) {
	for _, i := range []*inst.Inst{nil, {}} {
		if i.Install(nil, 0) != api.ErrCrash || tell(i.Query()) != api.ErrCrash.Error() {
			t.Error("a nil Inst")
		}
	}
}
