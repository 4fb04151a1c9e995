package stamp_test

import (
	"bytes"
	"crypto/sha256"
	"math"
	"testing"

	"apostille/api"
	"apostille/atom"
	"apostille/cert"
	"apostille/sample"
	"apostille/stamp"
	"apostille/tlv"
	"apostille/when"
)

// plain is a timestamp that may be.
func plain() api.Stamp {
	c := sample.Cert(5, sample.Name("stamper"), sample.EC(3), sample.Name("ca"), sample.EC(4), sample.Uses(8))
	return sample.Stamp([]byte("sig"), 2000, c, sample.EC(3))
}

// with is a plain one, changed.
func with(f func(s *api.Stamp)) api.Stamp {
	s := plain()
	f(&s)
	return s
}

// good is timestamps that may be, no two of them the same.
func good() []api.Stamp {
	return []api.Stamp{
		plain(),
		with(func(s *api.Stamp) { s.Digest = make([]byte, 32) }),
		with(func(s *api.Stamp) { s.At = -631152000 }),
		with(func(s *api.Stamp) { s.At = 253402300799 }),
		with(func(s *api.Stamp) { s.Cert.Serial = api.Nat{6} }),
		with(func(s *api.Stamp) { s.Sig = []byte{0} }),
		with(func(s *api.Stamp) { s.Sig = make([]byte, 600) }),
	}
}

// wrong is timestamps that may not be.
func wrong() []api.Stamp {
	return []api.Stamp{
		{},
		with(func(s *api.Stamp) { s.Digest = nil }),
		with(func(s *api.Stamp) { s.Digest = make([]byte, 31) }),
		with(func(s *api.Stamp) { s.Digest = make([]byte, 33) }),
		with(func(s *api.Stamp) { s.At = -631152001 }),
		with(func(s *api.Stamp) { s.At = math.MaxInt64 }),
		with(func(s *api.Stamp) { s.Cert = api.Cert{} }),
		with(func(s *api.Stamp) { s.Sig = nil }),
		with(func(s *api.Stamp) { s.Sig = make([]byte, 601) }),
	}
}

// P20.1
func TestIs(t *testing.T) {
	for i, s := range good() {
		if !stamp.Is(s) {
			t.Error(i)
		}
	}
	for i, s := range wrong() {
		if stamp.Is(s) || !tlv.Same(stamp.Body(s), api.Node{}) || !tlv.Same(stamp.Node(s), api.Node{}) || stamp.Digest(s) != nil {
			t.Error(i)
		}
	}
}

// P20.1
func TestBody(t *testing.T) {
	s := plain()
	b := stamp.Body(s)
	if !tlv.Same(b, atom.Seq(0x30, atom.Octets(s.Digest), when.Time(2000))) {
		t.Error(b)
	}
	if !tlv.Same(stamp.Node(s), atom.Seq(0x30, b, cert.Node(s.Cert), atom.Bits(s.Sig))) {
		t.Error("Node")
	}
	want := sha256.Sum256(tlv.Bytes(b))
	if !bytes.Equal(stamp.Digest(s), want[:]) {
		t.Error("Digest")
	}
}

// P20.1, P20.2
func TestGet(t *testing.T) {
	for i, s := range good() {
		n, e := tlv.Read(tlv.Bytes(stamp.Node(s)))
		got, ok := stamp.Get(n)
		if e != api.OK || !ok || !stamp.Same(got, s) {
			t.Error(i)
		}
	}
	s := plain()
	b, c, sig := stamp.Body(s), cert.Node(s.Cert), atom.Bits(s.Sig)
	d, at := b.Kids[0], b.Kids[1]
	for i, n := range []api.Node{
		{},
		atom.Seq(0x30),
		atom.Seq(0x30, b, c),
		atom.Seq(0x30, b, c, sig, sig),
		atom.Seq(0x31, b, c, sig),
		atom.Seq(0x30, c, b, sig),
		atom.Seq(0x30, b, b, sig),
		atom.Seq(0x30, b, c, atom.Bits(nil)),
		atom.Seq(0x30, b, c, atom.Octets(s.Sig)),
		atom.Seq(0x30, atom.Seq(0x31, d, at), c, sig),
		atom.Seq(0x30, atom.Seq(0x30, at, d), c, sig),
		atom.Seq(0x30, atom.Seq(0x30, d), c, sig),
		atom.Seq(0x30, atom.Seq(0x30, d, at, at), c, sig),
		atom.Seq(0x30, atom.Seq(0x30, atom.Octets(make([]byte, 31)), at), c, sig),
		atom.Seq(0x30, atom.Seq(0x30, atom.Bits(s.Digest), at), c, sig),
		atom.Seq(0x30, atom.Seq(0x30, d, atom.Small(5)), c, sig),
	} {
		if got, ok := stamp.Get(n); ok || !stamp.Same(got, api.Stamp{}) {
			t.Error(i)
		}
	}
}

// P20.1
func TestSame(t *testing.T) {
	l := append(good(), wrong()...)
	for i, a := range l {
		for j, b := range l {
			if stamp.Same(a, b) != (i == j) {
				t.Error(i, j)
			}
		}
	}
	if !stamp.Same(api.Stamp{}, api.Stamp{Digest: []byte{}, Sig: []byte{}}) {
		t.Error("nil and empty are the same")
	}
}

// P20.2
func TestMemory(t *testing.T) {
	s, kept := plain(), plain()
	n := stamp.Node(s)
	got, _ := stamp.Get(n)
	got.Digest[0] ^= 1
	got.Sig[0] ^= 1
	got.Cert.Sig[0] ^= 1
	if !tlv.Same(n, stamp.Node(kept)) {
		t.Error("Get shares memory")
	}
	n.Kids[0].Kids[0].Body[0] ^= 1
	n.Kids[2].Body[1] ^= 1
	stamp.Digest(s)[0] ^= 1
	if !stamp.Same(s, kept) || !bytes.Equal(stamp.Digest(s), stamp.Digest(kept)) {
		t.Error("Node shares memory")
	}
}
