package key_test

import (
	"bytes"
	"crypto/ecdsa"
	"crypto/elliptic"
	"crypto/rsa"
	"crypto/sha256"
	"crypto/x509"
	"math"
	"math/big"
	"testing"

	"apostille/api"
	"apostille/atom"
	"apostille/curve"
	"apostille/key"
	"apostille/nat"
	"apostille/sample"
	"apostille/tlv"
)

// wide is a number as Go's library has it.
func wide(a api.Nat) *big.Int {
	b, _ := nat.Bytes(a, len(a)*4)
	return new(big.Int).SetBytes(b)
}

// keys is keys of both kinds.
func keys() []api.Key {
	great := make(api.Nat, 128)
	for i := range great {
		great[i] = math.MaxUint32
	}
	root := new(big.Int).ModSqrt(wide(curve.B()), wide(curve.P()))
	return []api.Key{
		sample.RSA().Key,
		{Alg: api.RSA, N: great, E: math.MaxUint32},
		{Alg: api.RSA, N: great, E: 3},
		sample.EC(1).Key,
		sample.EC(2).Key,
		{Alg: api.EC, P: api.Point{Y: nat.Of(root.Bytes())}},
	}
}

// wrong is keys that are none.
func wrong() []api.Key {
	r, e := sample.RSA().Key, sample.EC(1).Key
	return []api.Key{
		{},
		{Alg: api.RSA},
		{Alg: api.EC},
		{Alg: 3, N: r.N, E: r.E},
		{Alg: api.EC, N: r.N, E: r.E},
		{Alg: api.RSA, P: e.P},
		{Alg: api.RSA, N: r.N, E: 2},
		{Alg: api.RSA, N: r.N, E: r.E, P: e.P},
		{Alg: api.EC, P: e.P, E: 3},
		{Alg: api.EC, P: api.Point{Inf: true}},
		{Alg: api.RSA, N: append(append(api.Nat{}, r.N...), 0), E: r.E},
	}
}

// P16.1
func TestIs(t *testing.T) {
	for i, k := range keys() {
		if !key.Is(k) {
			t.Error(i)
		}
	}
	for i, k := range wrong() {
		if key.Is(k) || !tlv.Same(key.Node(k), api.Node{}) || key.Digest(k) != nil {
			t.Error(i)
		}
	}
}

// P16.1: a key's bytes are those that Go's library writes.
func TestAgainstTheLibrary(t *testing.T) {
	r, e := sample.RSA().Key, sample.EC(77).Key
	for i, c := range []struct {
		k   api.Key
		lib any
	}{
		{r, &rsa.PublicKey{N: wide(r.N), E: int(r.E)}},
		{e, &ecdsa.PublicKey{Curve: elliptic.P256(), X: wide(e.P.X), Y: wide(e.P.Y)}},
	} {
		want, err := x509.MarshalPKIXPublicKey(c.lib)
		if err != nil {
			t.Fatal(err)
		}
		if got := tlv.Bytes(key.Node(c.k)); !bytes.Equal(got, want) {
			t.Errorf("%d: %x, not %x", i, got, want)
		}
		digest := sha256.Sum256(want)
		if !bytes.Equal(key.Digest(c.k), digest[:]) {
			t.Error("Digest", i)
		}
	}
}

// P16.1, P16.3
func TestGet(t *testing.T) {
	for i, k := range keys() {
		n := key.Node(k)
		got, ok := key.Get(n)
		if !ok || !key.Same(got, k) {
			t.Error(i)
		}
		read, e := tlv.Read(tlv.Bytes(n))
		if got, ok := key.Get(read); e != api.OK || !ok || !key.Same(got, k) {
			t.Error("read", i, e)
		}
	}
}

// P16.1
func TestGetRefuses(t *testing.T) {
	r, e := key.Node(sample.RSA().Key), key.Node(sample.EC(1).Key)
	rid, eid, p256 := r.Kids[0].Kids[0], e.Kids[0].Kids[0], e.Kids[0].Kids[1]
	null := api.Node{Tag: 5}
	digits := func(l ...api.Node) api.Node { return atom.Bits(tlv.Bytes(atom.Seq(0x30, l...))) }
	of := func(id, rest, digits api.Node) api.Node {
		return atom.Seq(0x30, atom.Seq(0x30, id, rest), digits)
	}
	n := atom.Int(sample.RSA().Key.N)
	point := sample.EC(1).Key.P
	x, _ := nat.Bytes(point.X, 32)
	y, _ := nat.Bytes(point.Y, 32)
	ec := func(first byte, x, y []byte) api.Node {
		return atom.Bits(append(append([]byte{first}, x...), y...))
	}
	if _, ok := key.Get(of(rid, null, digits(n, atom.Small(3)))); !ok {
		t.Fatal("a good key")
	}
	if _, ok := key.Get(of(eid, p256, ec(4, x, y))); !ok {
		t.Fatal("a good key")
	}
	for i, n := range []api.Node{
		{},
		atom.Seq(0x30),
		atom.Seq(0x30, r.Kids[0]),
		atom.Seq(0x30, r.Kids[0], r.Kids[1], r.Kids[1]),
		atom.Seq(0x31, r.Kids...),
		atom.Seq(0x30, r.Kids[1], r.Kids[0]),
		atom.Seq(0x30, e.Kids[0], r.Kids[1]),
		atom.Seq(0x30, r.Kids[0], e.Kids[1]),
		of(rid, api.Node{Tag: 5, Body: []byte{0}}, r.Kids[1]),
		of(rid, p256, r.Kids[1]),
		of(eid, null, e.Kids[1]),
		of(eid, eid, e.Kids[1]),
		of(p256, p256, e.Kids[1]),
		atom.Seq(0x30, atom.Seq(0x30, rid), r.Kids[1]),
		atom.Seq(0x30, atom.Seq(0x30, rid, null, null), r.Kids[1]),
		of(rid, null, atom.Octets(r.Kids[1].Body)),
		of(rid, null, digits(n, atom.Small(4))),
		of(rid, null, digits(n, atom.Small(0))),
		of(rid, null, digits(n, atom.Small(1))),
		of(rid, null, digits(n, atom.Small(1<<32+3))),
		of(rid, null, digits(n)),
		of(rid, null, digits(n, atom.Small(3), atom.Small(3))),
		of(rid, null, digits(atom.Small(15), atom.Small(3))),
		of(rid, null, atom.Bits(append(tlv.Bytes(atom.Seq(0x30, n, atom.Small(3))), 0))),
		of(rid, null, atom.Bits(nil)),
		of(rid, null, api.Node{Tag: 3, Body: append([]byte{1}, r.Kids[1].Body[1:]...)}),
		of(eid, p256, ec(4, y, x)),
		of(eid, p256, ec(2, x, y)),
		of(eid, p256, ec(2, x, nil)),
		of(eid, p256, ec(4, x, y[1:])),
		of(eid, p256, ec(4, x, append(y[:32:32], 0))),
		of(eid, p256, ec(4, make([]byte, 32), make([]byte, 32))),
		of(eid, p256, atom.Bits([]byte{0})),
		of(eid, p256, ec(4, bytes.Repeat([]byte{255}, 32), y)),
	} {
		if k, ok := key.Get(n); ok || !key.Same(k, api.Key{}) {
			t.Error(i)
		}
	}
}

// P16.2
func TestVerify(t *testing.T) {
	digest := bytes.Repeat([]byte{5}, 32)
	for i, s := range []sample.Signer{sample.RSA(), sample.EC(3), sample.EC(4)} {
		sig := s.Sign(digest)
		if !key.Verify(s.Key, digest, sig) {
			t.Error(i)
		}
		other := bytes.Clone(digest)
		other[0] = 6
		if key.Verify(s.Key, other, sig) || key.Verify(s.Key, digest, nil) || key.Verify(s.Key, digest, sig[1:]) || key.Verify(s.Key, nil, sig) || key.Verify(s.Key, digest, append(bytes.Clone(sig), 0)) {
			t.Error("what was not signed", i)
		}
		if key.Verify(sample.EC(9).Key, digest, sig) {
			t.Error("another key", i)
		}
	}
	for i, k := range wrong() {
		for _, s := range []sample.Signer{sample.RSA(), sample.EC(1)} {
			if key.Verify(k, digest, s.Sign(digest)) {
				t.Error("no key", i)
			}
		}
	}
}

// P16.2: the form of a signature by points.
func TestVerifyForm(t *testing.T) {
	s := sample.EC(3)
	digest := bytes.Repeat([]byte{7}, 32)
	p := s.Pair(digest)
	r, v := atom.Int(p.R), atom.Int(p.S)
	bytesOf := func(tag byte, l ...api.Node) []byte { return tlv.Bytes(atom.Seq(tag, l...)) }
	if !key.Verify(s.Key, digest, bytesOf(0x30, r, v)) {
		t.Fatal("a good signature")
	}
	more := nat.Mul(p.R, api.Nat{0, 0, 1})
	for i, sig := range [][]byte{
		bytesOf(0x31, r, v),
		bytesOf(0x30, r),
		bytesOf(0x30, r, v, v),
		bytesOf(0x30, v, r),
		bytesOf(0x30, r, atom.Octets(v.Body)),
		bytesOf(0x30, r, api.Node{Tag: 2, Body: append([]byte{0}, v.Body...)}),
		bytesOf(0x30, r, api.Node{Tag: 2, Body: append([]byte{0, 0}, v.Body...)}),
		bytesOf(0x30, atom.Int(more), v),
		bytesOf(0x30, r, atom.Int(more)),
		bytesOf(0x30),
		{},
		make([]byte, api.MaxPack+1),
		append(bytesOf(0x30, r, v), 0),
	} {
		if key.Verify(s.Key, digest, sig) {
			t.Error(i)
		}
	}
}

// P16.1
func TestSame(t *testing.T) {
	l := append(keys(), wrong()...)
	for i, a := range l {
		for j, b := range l {
			if key.Same(a, b) != (i == j) {
				t.Error(i, j)
			}
		}
	}
	if !key.Same(api.Key{N: api.Nat{}}, api.Key{P: api.Point{X: api.Nat{}, Y: api.Nat{}}}) {
		t.Error("nil and empty are the same")
	}
}

// P16.3
func TestMemory(t *testing.T) {
	for _, s := range []sample.Signer{sample.RSA(), sample.EC(3)} {
		n := key.Node(s.Key)
		k, _ := key.Get(n)
		n.Kids[1].Body[40] ^= 1
		n.Kids[0].Kids[0].Body[0] ^= 1
		if !key.Same(k, s.Key) {
			t.Error("memory is shared")
		}
		if again := key.Node(s.Key); !tlv.Same(again, key.Node(k)) || tlv.Same(again, n) {
			t.Error("an answer changed another one")
		}
		key.Digest(k)[0] ^= 1
		if !bytes.Equal(key.Digest(k), key.Digest(s.Key)) {
			t.Error("Digest")
		}
	}
}
