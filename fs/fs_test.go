package fs_test

import (
	"bytes"
	"maps"
	"math/rand"
	"slices"
	"strconv"
	"strings"
	"testing"

	"apostille/api"
	"apostille/dev"
	"apostille/fs"
	"apostille/jour"
	"apostille/node"
)

const sectors = 157 // of a disk, ahead of its places

// data is n bytes of one kind.
func data(c byte, n int) []byte { return bytes.Repeat([]byte{c}, n) }

func put(name string, b []byte) api.Op { return api.Op{File: api.File{Name: name, Data: b}} }
func drop(name string) api.Op          { return api.Op{Drop: true, File: api.File{Name: name}} }

// blank is a formatted disk of so many places, and its FS.
func blank(t *testing.T, many int) (*dev.Disk, *fs.FS) {
	t.Helper()
	d := dev.New(sectors + many)
	if e := fs.Format(d); e != api.OK {
		t.Fatal(e)
	}
	return d, mount(t, d)
}

func mount(t *testing.T, d *dev.Disk) *fs.FS {
	t.Helper()
	f, e := fs.Mount(d)
	if e != api.OK || f == nil {
		t.Fatal(e)
	}
	return f
}

// do does what must be well.
func do(t *testing.T, f *fs.FS, l ...api.Op) {
	t.Helper()
	if e := f.Do(l...); e != api.OK {
		t.Fatal(e)
	}
}

// tell is all files as a text: names, kinds of bytes, how many.
func tell(f *fs.FS) string {
	var s []string
	for _, x := range f.List() {
		kind := "-"
		if len(x.Data) > 0 {
			kind = string(x.Data[:1])
			if !bytes.Equal(x.Data, data(x.Data[0], len(x.Data))) {
				kind = "?"
			}
		}
		s = append(s, x.Name+"="+kind+strconv.Itoa(len(x.Data)))
	}
	return strings.Join(s, " ")
}

// logged is the places of the last n writes, in their order.
func logged(d *dev.Disk, n int) []int {
	var l []int
	for k := range n {
		b := d.Read(2 + k/32)
		l = append(l, int(b[k%32*2])<<8|int(b[k%32*2+1]))
	}
	return l
}

// P5.1
func TestFormat(t *testing.T) {
	for n, want := range map[int]api.Errno{1: api.ErrRoom, 157: api.ErrRoom, 197: api.ErrRoom, 198: api.OK, api.MaxDisk: api.OK} {
		d := dev.New(n)
		if e := fs.Format(d); e != want {
			t.Errorf("Format of %d: %v", n, e)
		}
	}
	d := dev.New(198)
	d.Arm(api.Crash{})
	if fs.Format(d) != api.ErrCrash || fs.Format(nil) != api.ErrCrash {
		t.Error("crash")
	}
}

// P5.1
func TestMountRefuses(t *testing.T) {
	if f, e := fs.Mount(nil); f != nil || e != api.ErrCrash {
		t.Error("nil", e)
	}
	if f, e := fs.Mount(dev.New(300)); f != nil || e != api.ErrDisk {
		t.Error("not formatted", e)
	}
	d := dev.New(197)
	jour.Format(d)
	if f, e := fs.Mount(d); f != nil || e != api.ErrDisk {
		t.Error("40 places", e)
	}
	if _, f := blank(t, 41); f.Left() != 1 {
		t.Error("41 places")
	}
	sector := func(n node.Node) []byte { return node.Bytes(n) }
	one := node.Node{Name: "a", Size: 3, Places: []int{41}}
	for i, c := range []struct {
		l    []api.Write
		want api.Errno
	}{
		{[]api.Write{{At: 39, Data: sector(one)}}, api.OK},
		{[]api.Write{{At: 40, Data: data(1, 64)}}, api.OK},
		{[]api.Write{{At: 0, Data: data(1, 64)}}, api.ErrDisk},
		{[]api.Write{{At: 39, Data: data(1, 64)}}, api.ErrDisk},
		{[]api.Write{{At: 1, Data: sector(one)}, {At: 2, Data: sector(one)}}, api.ErrDisk},
		{[]api.Write{{At: 1, Data: sector(one)}, {At: 2, Data: sector(node.Node{Name: "b", Size: 1, Places: []int{41}})}}, api.ErrDisk},
		{[]api.Write{{At: 1, Data: sector(node.Node{Name: "b", Size: 1, Places: []int{39}})}}, api.ErrDisk},
		{[]api.Write{{At: 1, Data: sector(node.Node{Name: "b", Size: 1, Places: []int{43}})}}, api.ErrDisk},
		{[]api.Write{{At: 1, Data: sector(node.Node{Name: "b", Size: 1, Places: []int{42}})}}, api.OK},
	} {
		d := dev.New(sectors + 43)
		fs.Format(d)
		jour.Commit(d, c.l...)
		f, e := fs.Mount(d)
		if e != c.want || (f != nil) != (e == api.OK) {
			t.Error(i, e)
		}
	}
}

// P5.1
func TestListGetLeft(t *testing.T) {
	d, f := blank(t, 60)
	if tell(f) != "" || f.Left() != 20 {
		t.Error("a blank disk", tell(f), f.Left())
	}
	do(t, f, put("b", data('b', 65)), put("a/x", nil), put("B", data('B', 600)), put("aa", data('a', 64)))
	for range 2 {
		if got := tell(f); got != "B=B600 a/x=-0 aa=a64 b=b65" {
			t.Error(got)
		}
		if f.Left() != 20-2-10-1 {
			t.Error(f.Left())
		}
		if b, ok := f.Get("b"); !ok || !bytes.Equal(b, data('b', 65)) {
			t.Error("Get b")
		}
		if b, ok := f.Get("a/x"); !ok || len(b) != 0 {
			t.Error("Get a/x")
		}
		for _, name := range []string{"", "x", "a", "a/x\x00"} {
			if b, ok := f.Get(name); ok || b != nil {
				t.Errorf("Get %q", name)
			}
		}
		d.Restart()
		f = mount(t, d)
	}
}

// P5.2
func TestDoRefuses(t *testing.T) {
	d, f := blank(t, 60)
	do(t, f, put("a", data('a', 5)))
	d.Restart()
	for i, c := range []struct {
		l    []api.Op
		want api.Errno
	}{
		{[]api.Op{put("", nil)}, api.ErrArg},
		{[]api.Op{put("x y", nil)}, api.ErrArg},
		{[]api.Op{put(strings.Repeat("x", 41), nil)}, api.ErrArg},
		{[]api.Op{put("x", data('x', 601))}, api.ErrArg},
		{[]api.Op{drop("x")}, api.ErrNone},
		{[]api.Op{drop("")}, api.ErrNone},
		{[]api.Op{drop("a"), drop("a")}, api.ErrNone},
		{[]api.Op{put("b", nil), drop("b"), drop("b")}, api.ErrNone},
		{[]api.Op{drop("b"), put("", nil)}, api.ErrNone},
		{[]api.Op{put("", nil), drop("b")}, api.ErrArg},
		{[]api.Op{put("b", data('b', 1)), drop("a"), put("", nil)}, api.ErrArg},
		{[]api.Op{put("b", data('b', 600)), put("c", data('c', 600)), put("", nil)}, api.ErrArg},
		{nil, api.OK},
		{[]api.Op{put("b", nil), drop("b")}, api.OK},
	} {
		if e := f.Do(c.l...); e != c.want || d.Ops() != 0 {
			t.Error(i, e, d.Ops())
		}
		if tell(f) != "a=a5" || f.Left() != 19 || tell(mount(t, d)) != "a=a5" {
			t.Error(i, tell(f))
		}
	}
}

// P5.2
func TestDoInOrder(t *testing.T) {
	_, f := blank(t, 50)
	do(t, f, put("a", data('1', 3)), put("b", nil), drop("a"))
	if tell(f) != "b=-0" {
		t.Error(tell(f))
	}
	do(t, f, drop("b"), put("b", data('2', 7)), put("b", data('3', 8)), put("c", nil))
	if tell(f) != "b=38 c=-0" || f.Left() != 9 {
		t.Error(tell(f), f.Left())
	}
	do(t, f, drop("b"), drop("c"))
	if tell(f) != "" || f.Left() != 10 {
		t.Error(tell(f), f.Left())
	}
}

// P5.2
func TestWhatIsWritten(t *testing.T) {
	d, f := blank(t, 60)
	do(t, f, put("m", data('m', 65)), put("c", data('c', 1)), put("z", nil))
	// By Name: c in slot 0 with 40; m in slot 1 with 41, 42; z in slot 2.
	if got := logged(d, 6); !slices.Equal(got, []int{40, 0, 41, 42, 1, 2}) {
		t.Error(got)
	}
	if b := jour.Read(d, 42); b[0] != 'm' || !bytes.Equal(b[1:], make([]byte, 63)) {
		t.Error("noughts behind", b)
	}
	if n, _, ok := node.Read(jour.Read(d, 1)); !ok || n.Name != "m" || n.Size != 65 || !slices.Equal(n.Places, []int{41, 42}) {
		t.Error("node", n)
	}
	// c keeps its slot and has other places; z goes; a and b have slots that nobody had.
	do(t, f, drop("z"), put("c", data('C', 130)), put("b", data('b', 2)), put("a", nil), drop("c"), put("c", data('D', 128)), drop("m"), put("x", nil), drop("x"))
	if got := logged(d, 8); !slices.Equal(got, []int{3, 43, 4, 44, 45, 0, 1, 2}) {
		t.Error(got)
	}
	if !bytes.Equal(jour.Read(d, 1), make([]byte, 64)) || !bytes.Equal(jour.Read(d, 2), make([]byte, 64)) {
		t.Error("a slot that is free is noughts")
	}
	// Now 1, 2 and 40 to 42 are free: the lowest are given first.
	do(t, f, put("d", data('d', 256)))
	if got := logged(d, 5); !slices.Equal(got, []int{40, 41, 42, 46, 1}) {
		t.Error(got)
	}
	if got := tell(mount(t, d)); got != tell(f) || got != "a=-0 b=b2 c=D128 d=d256" {
		t.Error(got)
	}
}

// P5.2
func TestRoomOfPlaces(t *testing.T) {
	_, f := blank(t, 43)
	do(t, f, put("a", data('1', 128)))
	// What a holds is not free while it is written anew.
	if e := f.Do(put("a", data('2', 65))); e != api.ErrRoom || tell(f) != "a=1128" || f.Left() != 1 {
		t.Error(e, tell(f))
	}
	if e := f.Do(drop("a"), put("b", data('2', 65))); e != api.ErrRoom || tell(f) != "a=1128" {
		t.Error(e, tell(f))
	}
	do(t, f, put("a", data('2', 64)))
	if tell(f) != "a=264" || f.Left() != 2 {
		t.Error(tell(f), f.Left())
	}
	// What is dropped again needs none.
	do(t, f, put("b", data('3', 600)), drop("b"), put("c", data('3', 128)))
	if tell(f) != "a=264 c=3128" || f.Left() != 0 {
		t.Error(tell(f))
	}
}

// P5.2
func TestRoomOfSlots(t *testing.T) {
	_, f := blank(t, 60)
	for i := range 40 {
		do(t, f, put("f"+strconv.Itoa(i), nil))
	}
	if e := f.Do(put("x", nil)); e != api.ErrRoom {
		t.Error(e)
	}
	if e := f.Do(drop("f0"), put("x", nil)); e != api.ErrRoom || len(f.List()) != 40 {
		t.Error("a slot that was had at the beginning is given", e)
	}
	do(t, f, put("f0", data('0', 1)))
	do(t, f, drop("f7"))
	do(t, f, put("x", nil))
	if len(f.List()) != 40 {
		t.Error(len(f.List()))
	}
}

// P5.2
func TestRoomOfOneCommit(t *testing.T) {
	_, f := blank(t, 500)
	// 13 files of 10 places and a node each: 143; then six nodes, and one more.
	var l []api.Op
	for i := range 13 {
		l = append(l, put("big"+strconv.Itoa(i), data('b', 600)))
	}
	do(t, f, put("old", nil))
	for i := range 6 {
		l = append(l, put("s"+strconv.Itoa(i), nil))
	}
	l = append(l, drop("old"))
	if e := f.Do(append(slices.Clone(l), put("t", nil))...); e != api.ErrRoom || tell(f) != "old=-0" {
		t.Error("151 sectors", e)
	}
	do(t, f, l...)
	if len(f.List()) != 19 {
		t.Error(len(f.List()))
	}
}

// P5.2, P5.3: what files are there is what a plain map tells.
func TestAgainstAMap(t *testing.T) {
	r := rand.New(rand.NewSource(5))
	d, f := blank(t, 66)
	files := map[string][]byte{}
	refused := map[api.Errno]int{}
	for range 600 {
		want := maps.Clone(files)
		var l []api.Op
		first := api.OK
		for range r.Intn(5) {
			name := "f" + strconv.Itoa(r.Intn(9))
			b := data(byte('a'+r.Intn(26)), r.Intn(250))
			op := put(name, b)
			if r.Intn(3) == 0 {
				op = drop(name)
			}
			l = append(l, op)
			if _, ok := want[name]; op.Drop && !ok && first == api.OK {
				first = api.ErrNone
			}
			want[name] = b
			if op.Drop {
				delete(want, name)
			}
		}
		left := f.Left()
		e := f.Do(l...)
		refused[e]++
		if e == api.OK {
			files = want
		} else if f.Left() != left {
			t.Fatal("refused, and changed")
		}
		if first != api.OK && e != first || first == api.OK && e != api.OK && e != api.ErrRoom {
			t.Fatal(e, first)
		}
		used := 0
		list := f.List()
		for _, b := range files {
			used += node.Need(len(b))
		}
		for _, x := range list {
			if b, ok := files[x.Name]; !ok || !bytes.Equal(b, x.Data) {
				t.Fatal(x.Name)
			}
		}
		if len(list) != len(files) || f.Left() != 26-used {
			t.Fatal(len(list), f.Left())
		}
		if r.Intn(4) == 0 {
			d.Restart()
			f = mount(t, d)
		}
	}
	if refused[api.OK] == 0 || refused[api.ErrNone] == 0 || refused[api.ErrRoom] == 0 {
		t.Error("not all was tried", refused)
	}
}

// P5.3
func TestAllOrNothing(t *testing.T) {
	all, some := make([]bool, 60), make([]bool, 60)
	for i := range all {
		all[i], some[i] = true, i%3 != 1
	}
	ended := false
	for at := 0; !ended; at++ {
		for _, keep := range [][]bool{nil, all, some, all[:3]} {
			for again := range 12 {
				d, f := blank(t, 60)
				do(t, f, put("a", data('1', 70)), put("b", data('1', 5)), put("c", nil))
				old := tell(f)
				d.Restart()
				d.Arm(api.Crash{At: at, Keep: keep})
				e := f.Do(put("a", data('2', 130)), drop("b"), put("d", data('2', 3)))
				ended = e == api.OK
				d.Restart()
				d.Arm(api.Crash{At: again, Keep: keep})
				fs.Mount(d)
				d.Restart()
				got := tell(mount(t, d))
				if got != "a=2130 c=-0 d=23" && (e == api.OK || got != old) {
					t.Fatal(at, keep, again, e, got)
				}
				if again := tell(mount(t, d)); again != got {
					t.Fatal("mounted anew", again)
				}
			}
		}
	}
}

// P5.3
func TestMemory(t *testing.T) {
	_, f := blank(t, 60)
	b := data('1', 70)
	l := []api.Op{put("a", b), put("b", b)}
	do(t, f, l...)
	b[0] = '9'
	got, _ := f.Get("a")
	got[1] = '9'
	f.List()[1].Data[2] = '9'
	if tell(f) != "a=170 b=170" {
		t.Error("memory is shared", tell(f))
	}
	if l[0].File.Name != "a" || !bytes.Equal(b[1:], data('1', 69)) {
		t.Error("what is handed in is changed")
	}
}

// P5.3
func TestNil(t *testing.T) {
	for _, f := range []*fs.FS{nil, {}} {
		if b, ok := f.Get("a"); ok || b != nil || f.List() != nil || f.Left() != 0 {
			t.Error("something is there")
		}
		if f.Do() != api.ErrCrash || f.Do(put("a", nil)) != api.ErrCrash || f.Do(put("", nil)) != api.ErrCrash {
			t.Error("Do")
		}
	}
}
