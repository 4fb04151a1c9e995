package cert_test

import (
	"bytes"
	"crypto/sha256"
	"math"
	"slices"
	"testing"

	"apostille/api"
	"apostille/atom"
	"apostille/cert"
	"apostille/nat"
	"apostille/sample"
	"apostille/tlv"
	"apostille/when"
)

// plain is a certificate that may be.
func plain() api.Cert {
	return sample.Cert(5, sample.Name("o", "leaf"), sample.EC(3), sample.Name("o", "ca"), sample.EC(4), sample.Usage(0x80), sample.Uses(3))
}

// with is a plain one, changed.
func with(f func(c *api.Cert)) api.Cert {
	c := plain()
	f(&c)
	return c
}

// good is certificates that may be, no two of them the same.
func good() []api.Cert {
	rsa := sample.Cert(6, sample.Name("r"), sample.RSA(), sample.Name("r"), sample.RSA(), sample.Basic(-1))
	serial := bytes.Repeat([]byte{255}, 20)
	serial[0] = 0x7f
	return []api.Cert{
		plain(),
		rsa,
		with(func(c *api.Cert) { c.Serial = nat.Of(serial) }),
		with(func(c *api.Cert) { c.Serial = api.Nat{1} }),
		with(func(c *api.Cert) { c.Issuer = sample.Name("x") }),
		with(func(c *api.Cert) { c.Subject = sample.Name("x") }),
		with(func(c *api.Cert) { c.From = c.Till }),
		with(func(c *api.Cert) { c.From = -631152000 }),
		with(func(c *api.Cert) { c.Till = 253402300799 }),
		with(func(c *api.Cert) { c.Key = sample.EC(9).Key }),
		with(func(c *api.Cert) { c.Exts = nil }),
		with(func(c *api.Cert) { c.Exts[0].Critical = true }),
		with(func(c *api.Cert) { c.Exts[0].Value = []byte{9} }),
		with(func(c *api.Cert) { c.Sig = []byte{0} }),
		with(func(c *api.Cert) { c.Sig = make([]byte, 600) }),
	}
}

// wrong is certificates that may not be.
func wrong() []api.Cert {
	return []api.Cert{
		{},
		with(func(c *api.Cert) { c.Serial = nil }),
		with(func(c *api.Cert) { c.Serial = api.Nat{0} }),
		with(func(c *api.Cert) { c.Serial = api.Nat{5, 0} }),
		with(func(c *api.Cert) { c.Serial = nat.Of(bytes.Repeat([]byte{0x80}, 20)) }),
		with(func(c *api.Cert) { c.Serial = nat.Of(bytes.Repeat([]byte{1}, 21)) }),
		with(func(c *api.Cert) { c.Serial = make(api.Nat, 1000) }),
		with(func(c *api.Cert) { c.Issuer = nil }),
		with(func(c *api.Cert) { c.Subject = nil }),
		with(func(c *api.Cert) { c.Subject[0].Text = "\xff" }),
		with(func(c *api.Cert) { c.From = c.Till + 1 }),
		with(func(c *api.Cert) { c.From = math.MinInt64 }),
		with(func(c *api.Cert) { c.From = -631152001 }),
		with(func(c *api.Cert) { c.Till = 253402300800 }),
		with(func(c *api.Cert) { c.Key = api.Key{} }),
		with(func(c *api.Cert) { c.Key.E = 3 }),
		with(func(c *api.Cert) { c.Exts = append(c.Exts, c.Exts[0]) }),
		with(func(c *api.Cert) { c.Exts[0].Value = make([]byte, 601) }),
		with(func(c *api.Cert) { c.Sig = nil }),
		with(func(c *api.Cert) { c.Sig = make([]byte, 601) }),
	}
}

// P18.1
func TestIs(t *testing.T) {
	for i, c := range good() {
		if !cert.Is(c) {
			t.Error(i)
		}
	}
	for i, c := range wrong() {
		if cert.Is(c) || !tlv.Same(cert.Body(c), api.Node{}) || !tlv.Same(cert.Node(c), api.Node{}) || cert.Digest(c) != nil {
			t.Error(i)
		}
	}
}

// P18.1
func TestBody(t *testing.T) {
	c := plain()
	b := cert.Body(c)
	if b.Tag != 0x30 || len(b.Kids) != 7 || !tlv.Same(b.Kids[0], atom.Small(2)) || !tlv.Same(b.Kids[1], atom.Small(5)) {
		t.Error(b)
	}
	if !tlv.Same(b.Kids[3], atom.Seq(0x30, when.Time(sample.From), when.Time(sample.Till))) {
		t.Error("times")
	}
	if !tlv.Same(cert.Node(c), atom.Seq(0x30, b, atom.Bits(c.Sig))) {
		t.Error("Node")
	}
	want := sha256.Sum256(tlv.Bytes(b))
	if !bytes.Equal(cert.Digest(c), want[:]) {
		t.Error("Digest")
	}
}

// P18.1, P18.2
func TestGetAndRead(t *testing.T) {
	for i, c := range good() {
		got, ok := cert.Get(cert.Node(c))
		if !ok || !cert.Same(got, c) {
			t.Error("Get", i)
		}
		read, e := cert.Read(tlv.Bytes(cert.Node(c)))
		if e != api.OK || !cert.Same(read, c) {
			t.Error("Read", i, e)
		}
	}
}

// body is a plain one's thing, a part of its body replaced.
func body(at int, n api.Node) api.Node {
	c := plain()
	b := cert.Body(c)
	b.Kids[at] = n
	return atom.Seq(0x30, b, atom.Bits(c.Sig))
}

// P18.1
func TestGetRefuses(t *testing.T) {
	c := plain()
	b, sig := cert.Body(c), atom.Bits(c.Sig)
	times := b.Kids[3].Kids
	for i, n := range []api.Node{
		{},
		atom.Seq(0x30),
		atom.Seq(0x30, b),
		atom.Seq(0x30, sig, b),
		atom.Seq(0x30, b, sig, sig),
		atom.Seq(0x31, b, sig),
		atom.Seq(0x30, b, atom.Octets(c.Sig)),
		atom.Seq(0x30, b, atom.Bits(nil)),
		atom.Seq(0x30, b, atom.Bits(make([]byte, 601))),
		atom.Seq(0x30, atom.Seq(0x31, b.Kids...), sig),
		atom.Seq(0x30, atom.Seq(0x30, b.Kids[:6]...), sig),
		atom.Seq(0x30, atom.Seq(0x30, append(slices.Clone(b.Kids), b.Kids[6])...), sig),
		body(0, atom.Small(1)),
		body(0, atom.Small(3)),
		body(0, atom.Octets([]byte{2})),
		body(1, atom.Small(0)),
		body(1, atom.Octets([]byte{5})),
		body(1, api.Node{Tag: 2, Body: make([]byte, 21)}),
		body(2, atom.Seq(0x30)),
		body(3, atom.Seq(0x30, times[1], times[0])),
		body(3, atom.Seq(0x30, times[0])),
		body(3, atom.Seq(0x30, times[0], times[1], times[1])),
		body(3, atom.Seq(0x31, times...)),
		body(3, atom.Seq(0x30, times[0], atom.Small(1))),
		body(4, atom.Seq(0x30)),
		body(5, atom.Seq(0x30)),
		body(6, atom.Seq(0x31)),
		body(6, atom.Seq(0x30, atom.Seq(0x30))),
	} {
		if got, ok := cert.Get(n); ok || !cert.Same(got, api.Cert{}) {
			t.Error(i)
		}
	}
}

// P18.1
func TestReadRefuses(t *testing.T) {
	b := tlv.Bytes(cert.Node(plain()))
	deep := api.Node{Tag: 4}
	var raw []byte
	for range 13 {
		raw = append([]byte{0x30, byte(len(raw))}, raw...)
	}
	for i, c := range []struct {
		b    []byte
		want api.Errno
	}{
		{nil, api.ErrForm},
		{b[:len(b)-1], api.ErrForm},
		{append(bytes.Clone(b), 0), api.ErrForm},
		{tlv.Bytes(deep), api.ErrForm},
		{raw, api.ErrDeep},
		{make([]byte, api.MaxPack+1), api.ErrLarge},
		{append([]byte{0x30, 0x82, 4, 0xb2}, bytes.Repeat([]byte{4, 0}, 601)...), api.ErrLarge},
		{append([]byte{0x30, 0x82, 4, 0xae}, bytes.Repeat([]byte{4, 0}, 599)...), api.ErrForm},
	} {
		if got, e := cert.Read(c.b); e != c.want || !cert.Same(got, api.Cert{}) {
			t.Error(i, e)
		}
	}
}

// P18.1
func TestSame(t *testing.T) {
	l := append(good(), wrong()...)
	for i, a := range l {
		for j, b := range l {
			if cert.Same(a, b) != (i == j) {
				t.Error(i, j)
			}
		}
	}
	if !cert.Same(api.Cert{}, api.Cert{Serial: api.Nat{}, Issuer: []api.Attr{}, Exts: []api.Ext{}, Sig: []byte{}}) {
		t.Error("nil and empty are the same")
	}
}

// P18.2
func TestMemory(t *testing.T) {
	c, kept := plain(), plain()
	n := cert.Node(c)
	got, _ := cert.Get(n)
	got.Serial[0], got.Sig[0], got.Exts[0].ID[0], got.Exts[1].Value[0] = 9, 9, 9, 9
	got.Issuer[0].Text, got.Key.P.X[0] = "z", 1
	if !tlv.Same(n, cert.Node(kept)) {
		t.Error("Get shares memory")
	}
	n.Kids[1].Body[1] ^= 1
	n.Kids[0].Kids[6].Kids[0].Kids[1].Body[0] ^= 1
	cert.Digest(c)[0] ^= 1
	if !cert.Same(c, kept) || !bytes.Equal(cert.Digest(c), cert.Digest(kept)) {
		t.Error("Node shares memory")
	}
}
