package accept_test

import (
	"bytes"
	"math"
	"slices"
	"testing"

	"apostille/accept"
	"apostille/api"
	"apostille/key"
	"apostille/list"
	"apostille/pack"
	"apostille/sample"
	"apostille/sha"
	"apostille/tlv"
)

const now = 5000

// files is two files.
func files() []api.File {
	return []api.File{{Name: "bin/a", Data: []byte("a")}, {Name: "doc", Data: make([]byte, 100)}}
}

// plain is a package that is let in.
func plain(h sample.House) api.Pack {
	return h.Pack(sample.Manifest("tool", 7, files()...), files()...)
}

// P27.1
func TestIs(t *testing.T) {
	h := sample.NewHouse()
	a, pin := h.Anchor, h.Trust().Pin
	bad := a
	bad.Sig = nil
	for i, c := range []struct {
		t    api.Trust
		want bool
	}{
		{h.Trust(), true},
		{api.Trust{Anchors: []api.Cert{a, a, a, a}, Pin: make([]byte, 32)}, true},
		{api.Trust{}, false},
		{api.Trust{Pin: pin}, false},
		{api.Trust{Anchors: []api.Cert{a}}, false},
		{api.Trust{Anchors: []api.Cert{a}, Pin: pin[1:]}, false},
		{api.Trust{Anchors: []api.Cert{a}, Pin: make([]byte, 33)}, false},
		{api.Trust{Anchors: []api.Cert{a, a, a, a, a}, Pin: pin}, false},
		{api.Trust{Anchors: []api.Cert{a, bad}, Pin: pin}, false},
	} {
		if accept.Is(c.t) != c.want {
			t.Error(i)
		}
	}
}

// P27.1
func TestAt(t *testing.T) {
	h := sample.NewHouse()
	p := plain(h)
	trust := h.Trust()
	stamped := h.Stamped(p, 2000)
	with := func(f func(p *api.Pack)) api.Pack {
		x := stamped
		x.Stamps = slices.Clone(stamped.Stamps)
		x.Certs = slices.Clone(stamped.Certs)
		f(&x)
		return x
	}
	stamper := func(l ...api.Ext) api.Pack {
		return with(func(p *api.Pack) {
			c := sample.Cert(4, sample.Name("house", "stamper"), h.Stamper, h.Certs[1].Subject, h.Mid, l...)
			p.Stamps[0] = sample.Stamp(p.Sig, 2000, c, h.Stamper)
		})
	}
	for i, c := range []struct {
		p    api.Pack
		want int64
	}{
		{p, now},
		{stamped, 2000},
		{h.Stamped(p, sample.From), sample.From},
		{h.Stamped(p, sample.From-1), now},
		{h.Stamped(p, sample.Till), sample.Till},
		{h.Stamped(p, sample.Till+1), now},
		{with(func(p *api.Pack) { p.Stamps = append(p.Stamps, p.Stamps[0]) }), now},
		{with(func(p *api.Pack) { p.Sig = []byte("x") }), now},
		{with(func(p *api.Pack) { p.Stamps[0].At++ }), now},
		{with(func(p *api.Pack) { p.Certs = p.Certs[:1] }), now},
		{with(func(p *api.Pack) { p.Crls = []api.Crl{h.Revoked(4, 2000)} }), now},
		{with(func(p *api.Pack) { p.Crls = []api.Crl{h.Revoked(4, 2001)} }), 2000},
		{stamper(sample.Uses(8)), 2000},
		{stamper(sample.Uses(3)), now},
		{stamper(sample.Uses(8), sample.Usage(0x7f)), now},
		{stamper(), now},
	} {
		if got := accept.At(c.p, trust, now); got != c.want {
			t.Error(i, got)
		}
	}
	if got := accept.At(stamped, api.Trust{}, now); got != now {
		t.Error("no anchors", got)
	}
}

// P27.2: the time that counts is the timestamp's, if that is one.
func TestTimes(t *testing.T) {
	h := sample.NewHouse()
	p := plain(h)
	gone := p
	gone.Crls = []api.Crl{h.Revoked(3, 3000)}
	for i, c := range []struct {
		p    api.Pack
		now  int64
		want api.Errno
	}{
		{p, now, api.OK},
		{p, sample.Till + 1, api.ErrChain},
		{p, sample.From - 1, api.ErrChain},
		{h.Stamped(p, 2000), sample.Till + 1, api.OK},
		{h.Stamped(p, 2000), math.MinInt64, api.OK},
		{h.Stamped(p, sample.Till+1), now, api.OK},
		{h.Stamped(p, sample.Till+1), sample.Till + 1, api.ErrChain},
		{gone, 2999, api.OK},
		{gone, 3000, api.ErrChain},
		{h.Stamped(gone, 2999), now, api.OK},
		{h.Stamped(gone, 3000), 2000, api.ErrChain},
	} {
		if _, e := accept.Pack(c.p, h.Trust(), c.now); e != c.want {
			t.Error(i, e)
		}
	}
}

// P27.2, P27.3
func TestPack(t *testing.T) {
	h := sample.NewHouse()
	trust := h.Trust()
	p := plain(h)
	m, e := accept.Pack(p, trust, now)
	if e != api.OK || !list.Same(m, sample.Manifest("tool", 7, files()...)) {
		t.Fatal(e)
	}
	with := func(f func(p *api.Pack)) api.Pack {
		x := p
		x.Certs = slices.Clone(p.Certs)
		x.Files = slices.Clone(p.Files)
		f(&x)
		return x
	}
	leaf := func(l ...api.Ext) api.Cert {
		return sample.Cert(30, sample.Name("house", "leaf"), h.Leaf, h.Certs[1].Subject, h.Mid, l...)
	}
	stranger := sample.EC(55)
	for i, c := range []struct {
		p    api.Pack
		want api.Errno
	}{
		{with(func(p *api.Pack) { p.Sig = []byte("x") }), api.ErrSign},
		{with(func(p *api.Pack) { p.Manifest = append(bytes.Clone(p.Manifest), 0) }), api.ErrSign},
		{with(func(p *api.Pack) { p.Sig = stranger.Sign(sha.Of(p.Manifest)) }), api.ErrSign},
		{with(func(p *api.Pack) { p.Certs = p.Certs[1:] }), api.ErrSign},
		{with(func(p *api.Pack) { p.Certs = p.Certs[:1] }), api.ErrChain},
		{with(func(p *api.Pack) { p.Certs[0] = leaf() }), api.ErrChain},
		{with(func(p *api.Pack) { p.Certs[0] = leaf(sample.Uses(8)) }), api.ErrChain},
		{with(func(p *api.Pack) { p.Certs[0] = leaf(sample.Uses(3), sample.Usage(0x7f)) }), api.ErrChain},
		{with(func(p *api.Pack) { p.Certs[0] = leaf(sample.Uses(3)) }), api.OK},
		// One of two leaves is enough, wherever it stands.
		{with(func(p *api.Pack) { p.Certs = append(p.Certs, leaf()) }), api.OK},
		{with(func(p *api.Pack) { p.Certs = append([]api.Cert{leaf()}, p.Certs...) }), api.OK},
		{with(func(p *api.Pack) { p.Crls = []api.Crl{h.Revoked(3, 0)} }), api.ErrChain},
		{with(func(p *api.Pack) { p.Crls = []api.Crl{h.Revoked(30, 0)} }), api.OK},
		{h.Signed(p, nil), api.ErrForm},
		{h.Signed(p, []byte{0x30, 0}), api.ErrForm},
		{h.Signed(p, make([]byte, 11000)), api.ErrForm},
		{h.Signed(p, tlv.Bytes(list.Node(sample.Manifest("tool", 7, api.File{Name: ".."})))), api.ErrName},
		{with(func(p *api.Pack) { p.Files = p.Files[:1] }), api.ErrDigest},
		{with(func(p *api.Pack) { p.Files[0] = []byte("b") }), api.ErrDigest},
		{with(func(p *api.Pack) { p.Files[0], p.Files[1] = p.Files[1], p.Files[0] }), api.ErrDigest},
		// What is named first.
		{h.Signed(with(func(p *api.Pack) { p.Certs = p.Certs[:1]; p.Files = nil }), nil), api.ErrChain},
		{h.Signed(with(func(p *api.Pack) { p.Files = nil }), nil), api.ErrForm},
	} {
		got, e := accept.Pack(c.p, trust, now)
		if e != c.want || e != api.OK && !list.Same(got, api.Manifest{}) {
			t.Error(i, e)
		}
	}
	other := trust
	other.Pin = key.Digest(stranger.Key)
	if _, e := accept.Pack(p, other, now); e != api.ErrSign {
		t.Error("another pin", e)
	}
	other = trust
	other.Anchors = []api.Cert{sample.Cert(1, h.Anchor.Subject, stranger, h.Anchor.Subject, stranger, sample.Basic(-1))}
	if _, e := accept.Pack(p, other, now); e != api.ErrChain {
		t.Error("another anchor", e)
	}
	other.Anchors = append(other.Anchors, h.Anchor)
	if _, e := accept.Pack(p, other, now); e != api.OK {
		t.Error("one of two anchors", e)
	}
}

// P27.2
func TestBytes(t *testing.T) {
	h := sample.NewHouse()
	trust := h.Trust()
	b := h.Bytes("tool", 7, files()...)
	great := h.Bytes("tool", math.MaxUint64, files()...)
	for i, c := range []struct {
		b       []byte
		t       api.Trust
		counter uint64
		first   bool
		want    api.Errno
	}{
		{b, trust, 0, true, api.OK},
		{b, trust, math.MaxUint64, true, api.OK},
		{b, trust, 0, false, api.OK},
		{b, trust, 6, false, api.OK},
		{b, trust, 7, false, api.ErrBack},
		{b, trust, 8, false, api.ErrBack},
		{great, trust, math.MaxUint64 - 1, false, api.OK},
		{great, trust, math.MaxUint64, false, api.ErrBack},
		{b, api.Trust{}, 0, true, api.ErrArg},
		{nil, api.Trust{}, 0, true, api.ErrArg},
		{nil, trust, 0, true, api.ErrForm},
		{b[1:], trust, 0, true, api.ErrForm},
		{make([]byte, api.MaxPack+1), trust, 0, true, api.ErrLarge},
		{bytes.Repeat([]byte{0x30}, 100), trust, 0, true, api.ErrForm},
		{h.Bytes("tool", 7), trust, 7, false, api.ErrBack},
		{pack.Bytes(h.Signed(plain(h), nil)), trust, 7, false, api.ErrForm},
	} {
		p, m, e := accept.Bytes(c.b, c.t, now, c.counter, c.first)
		if e != c.want {
			t.Error(i, e)
		}
		if e != api.OK && (!pack.Same(p, api.Pack{}) || !list.Same(m, api.Manifest{})) {
			t.Error("beside an error", i)
		}
		if e == api.OK && (!bytes.Equal(pack.Bytes(p), c.b) || m.Name != "tool" || len(m.Files) != 2) {
			t.Error("what is let in", i)
		}
	}
	if _, _, e := accept.Bytes(b, trust, sample.Till+1, 7, false); e != api.ErrChain {
		t.Error("ErrChain comes ahead of ErrBack", e)
	}
}

// P27.3: of whatever is changed in a package, nothing is let in that was not signed.
func TestChanged(t *testing.T) {
	h := sample.NewHouse()
	b := h.Bytes("tool", 7, files()...)
	want, _, _ := accept.Bytes(b, h.Trust(), now, 0, true)
	for i := range b {
		c := bytes.Clone(b)
		c[i] ^= 1 << (i % 8)
		p, m, e := accept.Bytes(c, h.Trust(), now, 0, true)
		if e == api.OK && (!bytes.Equal(p.Manifest, want.Manifest) || !slices.EqualFunc(p.Files, want.Files, bytes.Equal) || m.Counter != 7) {
			t.Fatal("let in", i)
		}
	}
}

// P27.3
func TestMemory(t *testing.T) {
	h := sample.NewHouse()
	trust := h.Trust()
	b := h.Bytes("tool", 7, files()...)
	kept := bytes.Clone(b)
	p, m, _ := accept.Bytes(b, trust, now, 0, true)
	m.Files[0].Digest[0] ^= 1
	if !bytes.Equal(pack.Bytes(p), kept) {
		t.Error("two answers share memory")
	}
	p.Files[0][0], p.Manifest[0], p.Certs[0].Sig[0] = 9, 9, 9
	if !bytes.Equal(b, kept) {
		t.Error("what is handed in is changed")
	}
	if _, _, e := accept.Bytes(b, trust, now, 0, true); e != api.OK {
		t.Error("the same again", e)
	}
}
