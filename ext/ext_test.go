package ext_test

import (
	"bytes"
	"reflect"
	"testing"

	"apostille/api"
	"apostille/atom"
	"apostille/dn"
	"apostille/ext"
	"apostille/tlv"
)

var (
	idBasic = []byte{0x55, 0x1d, 0x13}
	idUsage = []byte{0x55, 0x1d, 0x0f}
	idUses  = []byte{0x55, 0x1d, 0x25}
	idOnly  = []byte{0x55, 0x1d, 0x1e}
)

// said is an extension whose Value is a thing.
func said(id []byte, n api.Node) api.Ext { return api.Ext{ID: id, Value: tlv.Bytes(n)} }

// same tells whether two lists are one.
func same(a, b []api.Ext) bool {
	if len(a) != len(b) {
		return false
	}
	for i := range a {
		if !bytes.Equal(a[i].ID, b[i].ID) || a[i].Critical != b[i].Critical || !bytes.Equal(a[i].Value, b[i].Value) {
			return false
		}
	}
	return true
}

// rising is n extensions.
func rising(n int) []api.Ext {
	var l []api.Ext
	for i := range n {
		l = append(l, api.Ext{ID: []byte{1, byte(i)}, Critical: i%2 == 0, Value: make([]byte, i)})
	}
	return l
}

// good is lists that may be.
func good() [][]api.Ext {
	return [][]api.Ext{
		nil,
		{},
		rising(1),
		rising(12),
		{{ID: []byte{5}}, {ID: []byte{5, 1}, Critical: true}, {ID: []byte{6}, Value: make([]byte, 600)}},
		{{ID: make([]byte, 20), Value: []byte{1}}},
	}
}

// wrong is lists that may not.
func wrong() [][]api.Ext {
	return [][]api.Ext{
		rising(13),
		{{}},
		{{ID: []byte{0x80, 1}}},
		{{ID: []byte{0x81}}},
		{{ID: make([]byte, 21)}},
		{{ID: []byte{6}}, {ID: []byte{5}}},
		{{ID: []byte{5, 1}}, {ID: []byte{5}}},
		{{ID: []byte{5}}, {ID: []byte{5}, Critical: true}},
		{{ID: []byte{5}, Value: make([]byte, 601)}},
	}
}

// P17.1
func TestIs(t *testing.T) {
	for i, l := range good() {
		if !ext.Is(l) {
			t.Error(i)
		}
	}
	for i, l := range wrong() {
		if ext.Is(l) {
			t.Error(i)
		}
		ext.Node(l)
	}
}

// P17.1
func TestNode(t *testing.T) {
	got := ext.Node([]api.Ext{{ID: idUsage, Value: []byte{1}}, {ID: idBasic, Critical: true}})
	want := []byte{0x30, 22, 0x30, 8, 6, 3, 0x55, 0x1d, 0x0f, 4, 1, 1, 0x30, 10, 6, 3, 0x55, 0x1d, 0x13, 1, 1, 255, 4, 0}
	if b := tlv.Bytes(got); !bytes.Equal(b, want) {
		t.Errorf("%x", b)
	}
	if b := tlv.Bytes(ext.Node(nil)); !bytes.Equal(b, []byte{0x30, 0}) {
		t.Errorf("%x", b)
	}
}

// P17.1, P17.3
func TestGet(t *testing.T) {
	for i, l := range good() {
		n := ext.Node(l)
		got, ok := ext.Get(n)
		if !ok || !same(got, l) {
			t.Error(i, got)
		}
	}
	for i, l := range wrong() {
		if got, ok := ext.Get(ext.Node(l)); ok || got != nil {
			t.Error(i, got)
		}
	}
	id, v := atom.ID(idBasic), atom.Octets([]byte{1})
	for i, n := range []api.Node{
		{},
		atom.Seq(0x31),
		atom.Seq(0x30, v),
		atom.Seq(0x30, atom.Seq(0x30)),
		atom.Seq(0x30, atom.Seq(0x30, id)),
		atom.Seq(0x30, atom.Seq(0x31, id, v)),
		atom.Seq(0x30, atom.Seq(0x30, v, id)),
		atom.Seq(0x30, atom.Seq(0x30, id, id)),
		atom.Seq(0x30, atom.Seq(0x30, v, v)),
		atom.Seq(0x30, atom.Seq(0x30, id, v, v)),
		atom.Seq(0x30, atom.Seq(0x30, id, atom.Bool(false), v)),
		atom.Seq(0x30, atom.Seq(0x30, id, atom.Bool(true), atom.Bool(true), v)),
		atom.Seq(0x30, atom.Seq(0x30, id, v, atom.Bool(true))),
		atom.Seq(0x30, atom.Seq(0x30, id, api.Node{Tag: 1, Body: []byte{1}}, v)),
		atom.Seq(0x30, atom.Seq(0x30, id, atom.Bits([]byte{1}))),
	} {
		if l, ok := ext.Get(n); ok || l != nil {
			t.Error(i, l)
		}
	}
}

// P17.1
func TestFind(t *testing.T) {
	l := []api.Ext{{ID: []byte{5}, Value: []byte{1}}, {ID: []byte{6}, Critical: true, Value: []byte{2}}, {ID: []byte{6}, Value: []byte{3}}}
	if x, ok := ext.Find(l, []byte{6}); !ok || !same([]api.Ext{x}, l[1:2]) {
		t.Error("the first one", x)
	}
	for _, id := range [][]byte{nil, {}, {7}, {6, 1}, make([]byte, 100)} {
		if x, ok := ext.Find(l, id); ok || !same([]api.Ext{x}, []api.Ext{{}}) {
			t.Error(id)
		}
	}
}

// P17.2
func TestBasic(t *testing.T) {
	seq := func(l ...api.Node) []api.Ext { return []api.Ext{said(idBasic, atom.Seq(0x30, l...))} }
	yes := atom.Bool(true)
	for i, c := range []struct {
		l    []api.Ext
		want api.Basic
		ok   bool
	}{
		{nil, api.Basic{Path: -1}, true},
		{[]api.Ext{said(idUsage, atom.Bits([]byte{1}))}, api.Basic{Path: -1}, true},
		{seq(), api.Basic{Path: -1}, true},
		{seq(yes), api.Basic{CA: true, Path: -1}, true},
		{seq(yes, atom.Small(0)), api.Basic{CA: true}, true},
		{seq(yes, atom.Small(100)), api.Basic{CA: true, Path: 100}, true},
		{seq(yes, atom.Small(101)), api.Basic{}, false},
		{seq(yes, atom.Small(1<<63)), api.Basic{}, false},
		{seq(yes, atom.Octets(nil)), api.Basic{}, false},
		{seq(yes, atom.Small(1), atom.Small(1)), api.Basic{}, false},
		{seq(atom.Bool(false)), api.Basic{}, false},
		{seq(atom.Bool(false), atom.Small(1)), api.Basic{}, false},
		{seq(atom.Small(1)), api.Basic{}, false},
		{[]api.Ext{said(idBasic, atom.Seq(0x31))}, api.Basic{}, false},
		{[]api.Ext{said(idBasic, yes)}, api.Basic{}, false},
		{[]api.Ext{{ID: idBasic}}, api.Basic{}, false},
		{[]api.Ext{{ID: idBasic, Value: []byte{0x30, 0, 0}}}, api.Basic{}, false},
	} {
		if b, ok := ext.Basic(c.l); b != c.want || ok != c.ok {
			t.Error(i, b, ok)
		}
	}
}

// P17.2
func TestUsage(t *testing.T) {
	for i, c := range []struct {
		l        []api.Ext
		u        byte
		some, ok bool
	}{
		{nil, 0, false, true},
		{[]api.Ext{said(idBasic, atom.Seq(0x30))}, 0, false, true},
		{[]api.Ext{said(idUsage, atom.Bits([]byte{0x86}))}, 0x86, true, true},
		{[]api.Ext{said(idUsage, atom.Bits([]byte{0}))}, 0, true, true},
		{[]api.Ext{said(idUsage, atom.Bits(nil))}, 0, false, false},
		{[]api.Ext{said(idUsage, atom.Bits([]byte{1, 2}))}, 0, false, false},
		{[]api.Ext{said(idUsage, atom.Octets([]byte{1}))}, 0, false, false},
		{[]api.Ext{said(idUsage, api.Node{Tag: 3, Body: []byte{1, 2}})}, 0, false, false},
		{[]api.Ext{{ID: idUsage}}, 0, false, false},
		{[]api.Ext{{ID: idUsage, Value: []byte{3, 2, 0, 1, 0}}}, 0, false, false},
	} {
		if u, some, ok := ext.Usage(c.l); u != c.u || some != c.some || ok != c.ok {
			t.Error(i, u, some, ok)
		}
	}
}

// P17.2
func TestUses(t *testing.T) {
	id := func(c byte) api.Node { return atom.ID([]byte{c, 1}) }
	var ids []api.Node
	var want [][]byte
	for c := range byte(9) {
		ids = append(ids, id(c))
		want = append(want, []byte{c, 1})
	}
	for i, c := range []struct {
		l        []api.Ext
		want     [][]byte
		some, ok bool
	}{
		{nil, nil, false, true},
		{[]api.Ext{said(idUses, atom.Seq(0x30, ids[:1]...))}, want[:1], true, true},
		{[]api.Ext{said(idUses, atom.Seq(0x30, ids[:8]...))}, want[:8], true, true},
		{[]api.Ext{said(idUses, atom.Seq(0x30, ids...))}, nil, false, false},
		{[]api.Ext{said(idUses, atom.Seq(0x30))}, nil, false, false},
		{[]api.Ext{said(idUses, atom.Seq(0x31, ids[0]))}, nil, false, false},
		{[]api.Ext{said(idUses, atom.Seq(0x30, ids[0], atom.ID([]byte{0x80, 1})))}, nil, false, false},
		{[]api.Ext{said(idUses, atom.Seq(0x30, atom.Octets([]byte{1})))}, nil, false, false},
		{[]api.Ext{said(idUses, ids[0])}, nil, false, false},
		{[]api.Ext{{ID: idUses, Value: []byte{0x30}}}, nil, false, false},
	} {
		if got, some, ok := ext.Uses(c.l); !reflect.DeepEqual(got, c.want) || some != c.some || ok != c.ok {
			t.Error(i, got, some, ok)
		}
	}
}

// P17.2
func TestOnly(t *testing.T) {
	name := func(s string) []api.Attr { return []api.Attr{{Kind: 10, Text: s}} }
	var nodes []api.Node
	var want [][]api.Attr
	for _, s := range []string{"a", "b", "c", "d", "e", "f", "g", "h", "i"} {
		nodes = append(nodes, dn.Node(name(s)))
		want = append(want, name(s))
	}
	for i, c := range []struct {
		l        []api.Ext
		want     [][]api.Attr
		some, ok bool
	}{
		{nil, nil, false, true},
		{[]api.Ext{said(idOnly, atom.Seq(0x30, nodes[:1]...))}, want[:1], true, true},
		{[]api.Ext{said(idOnly, atom.Seq(0x30, nodes[:8]...))}, want[:8], true, true},
		{[]api.Ext{said(idOnly, atom.Seq(0x30, nodes...))}, nil, false, false},
		{[]api.Ext{said(idOnly, atom.Seq(0x30))}, nil, false, false},
		{[]api.Ext{said(idOnly, atom.Seq(0x30, nodes[0], atom.Seq(0x30)))}, nil, false, false},
		{[]api.Ext{said(idOnly, nodes[0])}, nil, false, false},
		{[]api.Ext{{ID: idOnly, Value: make([]byte, 20000)}}, nil, false, false},
	} {
		if got, some, ok := ext.Only(c.l); !reflect.DeepEqual(got, c.want) || some != c.some || ok != c.ok {
			t.Error(i, got, some, ok)
		}
	}
}

// P17.2
func TestOdd(t *testing.T) {
	var l []api.Ext
	for _, c := range []byte{0x13, 0x0f, 0x25, 0x1e, 0x0e, 0x23} {
		l = append(l, api.Ext{ID: []byte{0x55, 0x1d, c}, Critical: true})
	}
	if ext.Odd(nil) || ext.Odd(l) || ext.Odd([]api.Ext{{ID: []byte{1}}}) {
		t.Error("not odd")
	}
	for _, id := range [][]byte{{1}, {0x55, 0x1d}, {0x55, 0x1d, 0x14}, {0x55, 0x1d, 0x13, 0}, nil} {
		if !ext.Odd(append(l[:6:6], api.Ext{ID: id, Critical: true})) || ext.Odd(append(l[:6:6], api.Ext{ID: id})) {
			t.Error(id)
		}
	}
}

// P17.3
func TestMemory(t *testing.T) {
	l := good()[4]
	n := ext.Node(l)
	got, _ := ext.Get(n)
	found, _ := ext.Find(l, []byte{6})
	for _, x := range append(got, found) {
		x.ID[0] = 77
		if len(x.Value) > 0 {
			x.Value[0] = 77
		}
	}
	if !same(l, good()[4]) || !tlv.Same(n, ext.Node(l)) {
		t.Error("memory is shared")
	}
	uses := []api.Ext{said(idUses, atom.Seq(0x30, atom.ID([]byte{1, 2})))}
	ids, _, _ := ext.Uses(uses)
	ids[0][0] = 9
	if again, _, _ := ext.Uses(uses); again[0][0] != 1 {
		t.Error("memory is shared")
	}
}
