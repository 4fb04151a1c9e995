package pack_test

import (
	"bytes"
	"slices"
	"testing"

	"apostille/api"
	"apostille/atom"
	"apostille/cert"
	"apostille/crl"
	"apostille/pack"
	"apostille/sample"
	"apostille/stamp"
	"apostille/tlv"
)

// leaf is a small certificate of a serial.
func leaf(serial uint32) api.Cert {
	return api.Cert{Serial: api.Nat{serial}, Issuer: sample.Name("a"), Till: 1, Subject: sample.Name("b"), Key: sample.EC(1).Key, Sig: []byte{1}}
}

// row is a small row.
func row(at int64) api.Crl {
	return api.Crl{Issuer: sample.Name("a"), At: at, Next: 9, Sig: []byte{1}}
}

// mark is a small timestamp.
func mark(at int64) api.Stamp {
	return api.Stamp{Digest: make([]byte, 32), At: at, Cert: leaf(77), Sig: []byte{1}}
}

// repeat is n of a kind.
func repeat[T any](n int, f func(i int) T) []T {
	var l []T
	for i := range n {
		l = append(l, f(i))
	}
	return l
}

// plain is a package that may be.
func plain() api.Pack {
	return api.Pack{
		Manifest: []byte("manifest"),
		Sig:      []byte("sig"),
		Certs:    []api.Cert{leaf(1), leaf(2)},
		Crls:     []api.Crl{row(1), row(2)},
		Stamps:   []api.Stamp{mark(5)},
		Files:    [][]byte{[]byte("x"), nil},
	}
}

// with is a plain one, changed.
func with(f func(p *api.Pack)) api.Pack {
	p := plain()
	f(&p)
	return p
}

// empty is a file of n bytes.
func empty(n int) func(int) []byte { return func(int) []byte { return make([]byte, n) } }

// good is packages that may be, no two of them the same.
func good() []api.Pack {
	return []api.Pack{
		plain(),
		with(func(p *api.Pack) { p.Manifest = nil }),
		with(func(p *api.Pack) { p.Manifest = make([]byte, 9000) }),
		with(func(p *api.Pack) { p.Sig = make([]byte, 600) }),
		with(func(p *api.Pack) { p.Sig = []byte{0} }),
		with(func(p *api.Pack) { p.Certs = p.Certs[:1] }),
		with(func(p *api.Pack) { p.Certs = repeat(8, func(i int) api.Cert { return leaf(uint32(i + 1)) }) }),
		with(func(p *api.Pack) { p.Crls = nil }),
		with(func(p *api.Pack) { p.Crls = repeat(4, func(i int) api.Crl { return row(int64(i)) }) }),
		with(func(p *api.Pack) { p.Stamps = nil }),
		with(func(p *api.Pack) { p.Files = nil }),
		with(func(p *api.Pack) { p.Files = repeat(12, empty(600)) }),
		with(func(p *api.Pack) { p.Files[0] = []byte("y") }),
		with(func(p *api.Pack) { p.Certs[0].Sig = []byte{2} }),
		with(func(p *api.Pack) { p.Crls[0].Sig = []byte{2} }),
		with(func(p *api.Pack) { p.Stamps[0].Sig = []byte{2} }),
	}
}

// large is packages of which Read tells ErrLarge.
func large() []api.Pack {
	return []api.Pack{
		with(func(p *api.Pack) { p.Certs = repeat(9, func(i int) api.Cert { return leaf(uint32(i + 1)) }) }),
		with(func(p *api.Pack) { p.Crls = repeat(5, func(i int) api.Crl { return row(int64(i)) }) }),
		with(func(p *api.Pack) { p.Files = repeat(13, empty(1)) }),
		with(func(p *api.Pack) { p.Files = repeat(2, empty(601)) }),
	}
}

// bad is packages of which Read tells ErrForm (or that can't be written).
func bad() []api.Pack {
	return []api.Pack{
		{},
		with(func(p *api.Pack) { p.Sig = nil }),
		with(func(p *api.Pack) { p.Sig = make([]byte, 601) }),
		with(func(p *api.Pack) { p.Certs = nil }),
		with(func(p *api.Pack) { p.Certs[1].Serial = nil }),
		with(func(p *api.Pack) { p.Crls[1].Sig = nil }),
		with(func(p *api.Pack) { p.Stamps[0].Digest = nil }),
		with(func(p *api.Pack) { p.Stamps = append(p.Stamps, mark(6)) }),
	}
}

// raw is a package's thing, whether it may be or not.
func raw(p api.Pack) api.Node {
	var certs, crls, stamps, files []api.Node
	for _, c := range p.Certs {
		certs = append(certs, cert.Node(c))
	}
	for _, l := range p.Crls {
		crls = append(crls, crl.Node(l))
	}
	for _, s := range p.Stamps {
		stamps = append(stamps, stamp.Node(s))
	}
	for _, f := range p.Files {
		files = append(files, atom.Octets(f))
	}
	seq := func(l []api.Node) api.Node { return atom.Seq(0x30, l...) }
	return atom.Seq(0x30, atom.Octets(p.Manifest), atom.Bits(p.Sig), seq(certs), seq(crls), seq(stamps), seq(files))
}

// P23.1
func TestIs(t *testing.T) {
	for i, p := range good() {
		if !pack.Is(p) || !bytes.Equal(pack.Bytes(p), tlv.Bytes(raw(p))) {
			t.Error(i)
		}
	}
	for i, p := range slices.Concat(large(), bad(), []api.Pack{
		with(func(p *api.Pack) { p.Manifest = make([]byte, 12000) }),
		with(func(p *api.Pack) { p.Files = repeat(12, empty(600)); p.Manifest = make([]byte, 5000) }),
	}) {
		if pack.Is(p) || pack.Bytes(p) != nil {
			t.Error(i)
		}
	}
}

// P23.1: as large as may be, and a byte more.
func TestLargest(t *testing.T) {
	p := plain()
	p.Manifest = make([]byte, 10000)
	room := api.MaxPack - len(pack.Bytes(p))
	p.Manifest = make([]byte, 10000+room)
	if b := pack.Bytes(p); len(b) != api.MaxPack {
		t.Error(len(b))
	}
	p.Manifest = make([]byte, 10000+room+1)
	if pack.Is(p) {
		t.Error("a byte too many")
	}
	// Too many things: certificates with many extensions each.
	p = plain()
	p.Certs = repeat(8, func(i int) api.Cert {
		c := leaf(uint32(i + 1))
		c.Exts = repeat(12, func(k int) api.Ext { return api.Ext{ID: []byte{byte(k)}, Critical: true} })
		return c
	})
	if n := tlv.Count(raw(p)); n <= api.MaxNodes || pack.Is(p) || pack.Bytes(p) != nil {
		t.Error("too many things", n)
	}
}

// P23.1, P23.2
func TestReadOfBytes(t *testing.T) {
	for i, p := range good() {
		b := pack.Bytes(p)
		got, e := pack.Read(b)
		if e != api.OK || !pack.Same(got, p) || !bytes.Equal(pack.Bytes(got), b) || !pack.Is(got) {
			t.Error(i, e)
		}
	}
}

// P23.1
func TestReadRefuses(t *testing.T) {
	for i, p := range large() {
		if got, e := pack.Read(tlv.Bytes(raw(p))); e != api.ErrLarge || !pack.Same(got, api.Pack{}) {
			t.Error("large", i, e)
		}
	}
	for i, p := range bad() {
		if got, e := pack.Read(tlv.Bytes(raw(p))); e != api.ErrForm || !pack.Same(got, api.Pack{}) {
			t.Error("bad", i, e)
		}
	}
	six := raw(plain()).Kids
	but := func(at int, n api.Node) []byte {
		l := slices.Clone(six)
		l[at] = n
		return tlv.Bytes(atom.Seq(0x30, l...))
	}
	var deep []byte
	for range 13 {
		deep = append([]byte{0x30, byte(len(deep))}, deep...)
	}
	nine := repeat(9, func(i int) api.Node { return cert.Node(leaf(uint32(i + 1))) })
	for i, c := range []struct {
		b    []byte
		want api.Errno
	}{
		{nil, api.ErrForm},
		{[]byte{0x30}, api.ErrForm},
		{deep, api.ErrDeep},
		{make([]byte, api.MaxPack+1), api.ErrLarge},
		{tlv.Bytes(atom.Seq(0x30, six[:5]...)), api.ErrForm},
		{tlv.Bytes(atom.Seq(0x30, append(slices.Clone(six), six[5])...)), api.ErrForm},
		{tlv.Bytes(atom.Seq(0x31, six...)), api.ErrForm},
		{tlv.Bytes(atom.Octets(nil)), api.ErrForm},
		{but(0, atom.Bits([]byte("manifest"))), api.ErrForm},
		{but(0, atom.Seq(0x30)), api.ErrForm},
		{but(1, atom.Octets([]byte("sig"))), api.ErrForm},
		{but(1, api.Node{Tag: 3, Body: []byte{1, 2}}), api.ErrForm},
		{but(2, atom.Seq(0x31, six[2].Kids...)), api.ErrForm},
		{but(2, atom.Seq(0x30, atom.Seq(0x30))), api.ErrForm},
		{but(2, atom.Seq(0x30, append(slices.Clone(nine), atom.Seq(0x30))...)), api.ErrForm},
		{but(2, atom.Seq(0x30, nine...)), api.ErrLarge},
		{but(3, atom.Seq(0x31)), api.ErrForm},
		{but(3, atom.Octets(nil)), api.ErrForm},
		{but(3, atom.Seq(0x30, six[2].Kids...)), api.ErrForm},
		{but(4, atom.Seq(0x31)), api.ErrForm},
		{but(4, atom.Seq(0x30, atom.Seq(0x30))), api.ErrForm},
		{but(5, atom.Seq(0x31)), api.ErrForm},
		{but(5, atom.Seq(0x30, atom.Bits(nil))), api.ErrForm},
		{but(5, atom.Seq(0x30, atom.Octets(make([]byte, 601)), atom.Text("x"))), api.ErrForm},
		{append(tlv.Bytes(raw(plain())), 0), api.ErrForm},
	} {
		if got, e := pack.Read(c.b); e != c.want || !pack.Same(got, api.Pack{}) {
			t.Error(i, e)
		}
	}
}

// P23.2: whatever is read, its bytes are what was read.
func TestOneReading(t *testing.T) {
	b := pack.Bytes(plain())
	read := 0
	for i := range b {
		for _, x := range []byte{1, 2, 0x20, 0x80, 0xff} {
			c := bytes.Clone(b)
			c[i] ^= x
			p, e := pack.Read(c)
			if e != api.OK {
				continue
			}
			read++
			if !bytes.Equal(pack.Bytes(p), c) || pack.Same(p, plain()) {
				t.Fatal(i, x)
			}
		}
	}
	if read < 100 {
		t.Error("few were read", read)
	}
}

// P23.1
func TestSame(t *testing.T) {
	l := slices.Concat(good(), large(), bad())
	for i, a := range l {
		for j, b := range l {
			if pack.Same(a, b) != (i == j) {
				t.Error(i, j)
			}
		}
	}
	if !pack.Same(api.Pack{}, api.Pack{Manifest: []byte{}, Certs: []api.Cert{}, Files: [][]byte{}}) || !pack.Same(api.Pack{Files: [][]byte{nil}}, api.Pack{Files: [][]byte{{}}}) {
		t.Error("nil and empty are the same")
	}
}

// P23.2
func TestMemory(t *testing.T) {
	p := plain()
	b := pack.Bytes(p)
	kept := bytes.Clone(b)
	got, _ := pack.Read(b)
	got.Manifest[0], got.Sig[0], got.Files[0][0], got.Certs[0].Sig[0] = 9, 9, 9, 9
	if !bytes.Equal(b, kept) {
		t.Error("Read shares memory")
	}
	for i := range b {
		b[i] = 0
	}
	if !pack.Same(p, plain()) || got.Manifest[1] != 'a' {
		t.Error("Bytes shares memory")
	}
}
