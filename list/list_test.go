package list_test

import (
	"bytes"
	"crypto/sha256"
	"math"
	"strconv"
	"strings"
	"testing"

	"apostille/api"
	"apostille/atom"
	"apostille/list"
	"apostille/tlv"
)

func digest(b []byte) []byte {
	d := sha256.Sum256(b)
	return d[:]
}

// entry is a file of a path and bytes.
func entry(path string, b []byte) api.Entry {
	return api.Entry{Path: path, Size: len(b), Digest: digest(b)}
}

// plain is a manifest that may be.
func plain() api.Manifest {
	return api.Manifest{Name: "tool", Counter: 7, Files: []api.Entry{entry("a", []byte("x")), entry("b/c", nil), entry("b/d", make([]byte, 600))}}
}

// with is a plain one, changed.
func with(f func(m *api.Manifest)) api.Manifest {
	m := plain()
	f(&m)
	return m
}

// many is n files.
func many(n int) []api.Entry {
	var l []api.Entry
	for i := range n {
		l = append(l, entry("f"+strconv.Itoa(100+i), nil))
	}
	return l
}

// good is manifests that may be, no two of them the same.
func good() []api.Manifest {
	return []api.Manifest{
		plain(),
		with(func(m *api.Manifest) { m.Name = strings.Repeat("é", 32) }),
		with(func(m *api.Manifest) { m.Name = "\x00" }),
		with(func(m *api.Manifest) { m.Counter = 0 }),
		with(func(m *api.Manifest) { m.Counter = math.MaxUint64 }),
		with(func(m *api.Manifest) { m.Files = nil }),
		with(func(m *api.Manifest) { m.Files = many(12) }),
		with(func(m *api.Manifest) { m.Files[0].Size = 0 }),
		with(func(m *api.Manifest) { m.Files[0].Digest[31]++ }),
		with(func(m *api.Manifest) { m.Files[0].Path = "_" }),
	}
}

// badPaths is manifests that may be, but for their paths.
func badPaths() []api.Manifest {
	return []api.Manifest{
		with(func(m *api.Manifest) { m.Files[0].Path = "" }),
		with(func(m *api.Manifest) { m.Files[0].Path = ".." }),
		with(func(m *api.Manifest) { m.Files[0].Path = "A" }),
		with(func(m *api.Manifest) { m.Files[2].Path = "é" }),
		with(func(m *api.Manifest) { m.Files[0].Path = "b" }),
		with(func(m *api.Manifest) { m.Files[2].Path = "b/c/d" }),
		with(func(m *api.Manifest) { m.Files[2].Path = strings.Repeat("c", 33) }),
	}
}

// wrong is manifests that may not be.
func wrong() []api.Manifest {
	return []api.Manifest{
		{},
		with(func(m *api.Manifest) { m.Name = "" }),
		with(func(m *api.Manifest) { m.Name = "\xff" }),
		with(func(m *api.Manifest) { m.Name = strings.Repeat("x", 65) }),
		with(func(m *api.Manifest) { m.Files = many(13) }),
		with(func(m *api.Manifest) { m.Files[0].Size = -1 }),
		with(func(m *api.Manifest) { m.Files[0].Size = 601 }),
		with(func(m *api.Manifest) { m.Files[0].Size = math.MinInt }),
		with(func(m *api.Manifest) { m.Files[0].Digest = nil }),
		with(func(m *api.Manifest) { m.Files[0].Digest = make([]byte, 33) }),
		with(func(m *api.Manifest) { m.Files[0].Path = "\xff" }),
		with(func(m *api.Manifest) { m.Files[2].Path = strings.Repeat("x", 65) }),
		with(func(m *api.Manifest) { m.Files[0].Path = "z" }),
		with(func(m *api.Manifest) { m.Files[1].Path = "a" }),
	}
}

// P22.1
func TestIs(t *testing.T) {
	for i, m := range append(good(), badPaths()...) {
		if !list.Is(m) {
			t.Error(i)
		}
	}
	for i, m := range wrong() {
		if list.Is(m) || !tlv.Same(list.Node(m), api.Node{}) {
			t.Error(i)
		}
	}
}

// raw is a manifest's thing, whether it may be or not.
func raw(m api.Manifest) api.Node {
	var l []api.Node
	for _, f := range m.Files {
		l = append(l, atom.Seq(0x30, atom.Text(f.Path), atom.Small(uint64(f.Size)), atom.Octets(f.Digest)))
	}
	return atom.Seq(0x30, atom.Text(m.Name), atom.Small(m.Counter), atom.Seq(0x30, l...))
}

// P22.1, P22.3
func TestReadOfNode(t *testing.T) {
	for i, m := range good() {
		n := list.Node(m)
		if !tlv.Same(n, raw(m)) {
			t.Error("Node", i)
		}
		got, e := list.Read(tlv.Bytes(n))
		if e != api.OK || !list.Same(got, m) {
			t.Error(i, e)
		}
	}
}

// P22.1
func TestReadRefuses(t *testing.T) {
	name, counter, path, size, dig := atom.Text("n"), atom.Small(1), atom.Text("p"), atom.Small(0), atom.Octets(digest(nil))
	file := atom.Seq(0x30, path, size, dig)
	of := func(l ...api.Node) []byte { return tlv.Bytes(atom.Seq(0x30, l...)) }
	files := func(l ...api.Node) []byte { return of(name, counter, atom.Seq(0x30, l...)) }
	if _, e := list.Read(files(file)); e != api.OK {
		t.Fatal(e)
	}
	var deep []byte
	for range 13 {
		deep = append([]byte{0x30, byte(len(deep))}, deep...)
	}
	for i, c := range []struct {
		b    []byte
		want api.Errno
	}{
		{nil, api.ErrForm},
		{append(files(file), 0), api.ErrForm},
		{deep, api.ErrDeep},
		{make([]byte, api.MaxPack+1), api.ErrLarge},
		{tlv.Bytes(name), api.ErrForm},
		{of(), api.ErrForm},
		{of(name, counter), api.ErrForm},
		{of(name, counter, atom.Seq(0x30), atom.Seq(0x30)), api.ErrForm},
		{tlv.Bytes(atom.Seq(0x31, name, counter, atom.Seq(0x30))), api.ErrForm},
		{of(counter, name, atom.Seq(0x30)), api.ErrForm},
		{of(atom.Text(""), counter, atom.Seq(0x30)), api.ErrForm},
		{of(atom.Text("\xff"), counter, atom.Seq(0x30)), api.ErrForm},
		{of(atom.Octets([]byte("n")), counter, atom.Seq(0x30)), api.ErrForm},
		{of(name, atom.Int(api.Nat{0, 0, 1}), atom.Seq(0x30)), api.ErrForm},
		{of(name, api.Node{Tag: 2, Body: []byte{255}}, atom.Seq(0x30)), api.ErrForm},
		{of(name, counter, atom.Seq(0x31)), api.ErrForm},
		{of(name, counter, atom.Octets(nil)), api.ErrForm},
		{files(atom.Seq(0x31, path, size, dig)), api.ErrForm},
		{files(atom.Seq(0x30, path, size)), api.ErrForm},
		{files(atom.Seq(0x30, path, size, dig, dig)), api.ErrForm},
		{files(atom.Seq(0x30, size, path, dig)), api.ErrForm},
		{files(atom.Seq(0x30, atom.Octets([]byte("p")), size, dig)), api.ErrForm},
		{files(atom.Seq(0x30, atom.Text(strings.Repeat("x", 65)), size, dig)), api.ErrForm},
		{files(atom.Seq(0x30, path, size, atom.Octets(make([]byte, 31)))), api.ErrForm},
		{files(atom.Seq(0x30, path, size, atom.Bits(digest(nil)))), api.ErrForm},
		{files(atom.Seq(0x30, path, atom.Octets(nil), dig)), api.ErrForm},
		{files(atom.Seq(0x30, path, api.Node{Tag: 2, Body: []byte{255}}, dig)), api.ErrForm},
		{files(atom.Seq(0x30, path, atom.Small(1<<63), dig)), api.ErrForm},
		{files(atom.Seq(0x30, path, atom.Small(math.MaxUint64), dig)), api.ErrForm},
		{files(atom.Seq(0x30, path, atom.Small(math.MaxInt64), dig)), api.ErrLarge},
		{files(atom.Seq(0x30, path, atom.Small(601), dig)), api.ErrLarge},
		{tlv.Bytes(raw(with(func(m *api.Manifest) { m.Files = many(13) }))), api.ErrLarge},
		{files(file, file), api.ErrName},
		{files(atom.Seq(0x30, atom.Text("q"), size, dig), file), api.ErrForm},
		// What is named first: the form, what is too large, the names, whether they rise.
		{tlv.Bytes(raw(with(func(m *api.Manifest) { m.Files = many(13); m.Files[12].Digest = nil }))), api.ErrForm},
		{tlv.Bytes(raw(with(func(m *api.Manifest) { m.Files = append(many(12), many(1)...) }))), api.ErrLarge},
		{tlv.Bytes(raw(with(func(m *api.Manifest) { m.Files[0].Path = ".."; m.Files[2].Size = 601 }))), api.ErrLarge},
		{tlv.Bytes(raw(with(func(m *api.Manifest) { m.Files[0].Path = "z"; m.Files[2].Path = ".." }))), api.ErrName},
		{tlv.Bytes(raw(with(func(m *api.Manifest) { m.Files[0].Path = "z" }))), api.ErrForm},
	} {
		if m, e := list.Read(c.b); e != c.want || !list.Same(m, api.Manifest{}) {
			t.Error(i, e)
		}
	}
	for i, m := range badPaths() {
		if got, e := list.Read(tlv.Bytes(list.Node(m))); e != api.ErrName || !list.Same(got, api.Manifest{}) {
			t.Error(i, e)
		}
	}
}

// P22.2
func TestCheck(t *testing.T) {
	m := plain()
	x, none, long := []byte("x"), []byte{}, make([]byte, 600)
	for i, c := range []struct {
		files [][]byte
		want  api.Errno
	}{
		{[][]byte{x, none, long}, api.OK},
		{[][]byte{x, nil, long}, api.OK},
		{nil, api.ErrDigest},
		{[][]byte{x, none}, api.ErrDigest},
		{[][]byte{x, none, long, none}, api.ErrDigest},
		{[][]byte{none, x, long}, api.ErrDigest},
		{[][]byte{[]byte("y"), none, long}, api.ErrDigest},
		{[][]byte{x, none, long[:599]}, api.ErrDigest},
	} {
		if e := list.Check(m, c.files...); e != c.want {
			t.Error(i, e)
		}
	}
	m.Files[0].Size = 2
	if e := list.Check(m, x, none, long); e != api.ErrDigest {
		t.Error("a size that is not as it is told", e)
	}
	if list.Check(api.Manifest{}) != api.OK || list.Check(api.Manifest{}, nil) != api.ErrDigest {
		t.Error("no files")
	}
}

// P22.1
func TestSame(t *testing.T) {
	l := append(append(good(), badPaths()...), wrong()...)
	for i, a := range l {
		for j, b := range l {
			if list.Same(a, b) != (i == j) {
				t.Error(i, j)
			}
		}
	}
	if !list.Same(api.Manifest{}, api.Manifest{Files: []api.Entry{}}) {
		t.Error("nil and empty are the same")
	}
}

// P22.3
func TestMemory(t *testing.T) {
	m, kept := plain(), plain()
	n := list.Node(m)
	b := tlv.Bytes(n)
	got, _ := list.Read(b)
	got.Files[0].Digest[0] ^= 1
	n.Kids[2].Kids[0].Kids[2].Body[0] ^= 1
	if !list.Same(m, kept) || !bytes.Equal(b, tlv.Bytes(list.Node(kept))) {
		t.Error("memory is shared")
	}
}
