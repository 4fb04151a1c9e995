package bind_test

import (
	"bytes"
	"slices"
	"testing"

	"apostille/api"
	"apostille/bind"
	"apostille/cert"
	"apostille/crl"
	"apostille/key"
	"apostille/pack"
	"apostille/sample"
	"apostille/sha"
	"apostille/stamp"
)

// cas is a signer of each kind, and a certificate of it that signs others.
func cas() ([]sample.Signer, []api.Cert) {
	signers := []sample.Signer{sample.EC(4), sample.RSA()}
	var certs []api.Cert
	for _, s := range signers {
		certs = append(certs, sample.Cert(1, sample.Name("o", "ca"), s, sample.Name("o", "ca"), s, sample.Basic(-1)))
	}
	return signers, certs
}

// P24.1
func TestCert(t *testing.T) {
	signers, certs := cas()
	for i, by := range certs {
		c := sample.Cert(2, sample.Name("leaf"), sample.EC(5), sample.Name("o", "ca"), signers[i])
		if !bind.Cert(c, by) || !bind.Cert(by, by) {
			t.Error(i)
		}
		if bind.Cert(c, certs[1-i]) || bind.Cert(c, c) || bind.Cert(by, c) {
			t.Error("another one", i)
		}
		for k, x := range []api.Cert{
			sample.Cert(2, sample.Name("leaf"), sample.EC(5), sample.Name("o"), signers[i]),
			sample.Cert(2, sample.Name("leaf"), sample.EC(5), sample.Name("o", "ca", "x"), signers[i]),
			sample.Cert(2, sample.Name("leaf"), sample.EC(5), sample.Name("o", "ca"), sample.EC(99)),
		} {
			if !cert.Is(x) || bind.Cert(x, by) {
				t.Error(i, k)
			}
		}
		x := c
		x.Serial = api.Nat{3}
		if bind.Cert(x, by) {
			t.Error("another serial", i)
		}
		x = c
		x.Sig = bytes.Clone(c.Sig)
		x.Sig[len(x.Sig)-1] ^= 1
		if bind.Cert(x, by) {
			t.Error("another signature", i)
		}
	}
	if bind.Cert(api.Cert{}, api.Cert{}) || bind.Cert(certs[0], api.Cert{}) {
		t.Error("no certificate")
	}
}

// P24.1
func TestCrl(t *testing.T) {
	signers, certs := cas()
	for i, by := range certs {
		l := sample.Crl(sample.Name("o", "ca"), signers[i], api.Gone{Serial: api.Nat{5}, At: 3})
		if !bind.Crl(l, by) || bind.Crl(l, certs[1-i]) {
			t.Error(i)
		}
		if x := sample.Crl(sample.Name("x"), signers[i]); !crl.Is(x) || bind.Crl(x, by) {
			t.Error("another issuer", i)
		}
		x := l
		x.Next++
		if bind.Crl(x, by) {
			t.Error("changed", i)
		}
	}
	if bind.Crl(api.Crl{}, api.Cert{}) {
		t.Error("no row")
	}
}

// P24.1
func TestStamp(t *testing.T) {
	signers, certs := cas()
	sig := []byte("signature")
	for i, c := range certs {
		s := sample.Stamp(sig, 2000, c, signers[i])
		if !bind.Stamp(s, sig) {
			t.Error(i)
		}
		if bind.Stamp(s, nil) || bind.Stamp(s, sig[1:]) || bind.Stamp(s, sha.Of(sig)) {
			t.Error("another signature", i)
		}
		x := s
		x.At++
		if !stamp.Is(x) || bind.Stamp(x, sig) {
			t.Error("another time", i)
		}
		x = s
		x.Cert = certs[1-i]
		if bind.Stamp(x, sig) {
			t.Error("another certificate", i)
		}
	}
	if bind.Stamp(api.Stamp{}, nil) {
		t.Error("no timestamp")
	}
}

// P24.1
func TestPackAndLeaves(t *testing.T) {
	one, two := sample.EC(5), sample.RSA()
	ca, name := sample.EC(4), sample.Name("ca")
	certs := []api.Cert{
		sample.Cert(2, sample.Name("x"), two, name, ca),
		sample.Cert(3, sample.Name("y"), one, name, ca),
		sample.Cert(4, sample.Name("z"), ca, name, ca),
		sample.Cert(5, sample.Name("w"), one, name, ca),
	}
	p := api.Pack{Manifest: []byte("manifest"), Certs: certs}
	p.Sig = one.Sign(sha.Of(p.Manifest))
	if !pack.Is(p) {
		t.Fatal("no package")
	}
	for i, want := range []bool{false, true, false, true} {
		if bind.Pack(p, certs[i]) != want {
			t.Error(i)
		}
	}
	kept := p
	kept.Certs = slices.Clone(certs)
	if l := bind.Leaves(p, key.Digest(one.Key)); !slices.Equal(l, []int{1, 3}) {
		t.Error(l)
	}
	if !pack.Same(p, kept) {
		t.Error("what is handed in is changed")
	}
	for _, pin := range [][]byte{nil, key.Digest(two.Key), key.Digest(ca.Key), make([]byte, 32), key.Digest(one.Key)[1:]} {
		if l := bind.Leaves(p, pin); len(l) != 0 {
			t.Error(pin, l)
		}
	}
	p.Sig = two.Sign(sha.Of(p.Manifest))
	if l := bind.Leaves(p, key.Digest(two.Key)); !slices.Equal(l, []int{0}) {
		t.Error(l)
	}
	p.Manifest = []byte("another")
	if bind.Pack(p, certs[0]) || bind.Leaves(p, key.Digest(two.Key)) != nil {
		t.Error("another manifest")
	}
	p.Certs = nil
	if bind.Leaves(p, key.Digest(two.Key)) != nil || bind.Leaves(api.Pack{Certs: []api.Cert{{}}}, nil) != nil {
		t.Error("no certificates")
	}
}

// P24.2
func TestUnchanged(t *testing.T) {
	signers, certs := cas()
	_, kept := cas()
	c := sample.Cert(2, sample.Name("leaf"), sample.EC(5), sample.Name("o", "ca"), signers[0])
	same := sample.Cert(2, sample.Name("leaf"), sample.EC(5), sample.Name("o", "ca"), signers[0])
	l := sample.Crl(sample.Name("o", "ca"), signers[0])
	s := sample.Stamp([]byte("s"), 2000, c, sample.EC(5))
	bind.Cert(c, certs[0])
	bind.Crl(l, certs[0])
	bind.Stamp(s, []byte("s"))
	if !cert.Same(c, same) || !cert.Same(certs[0], kept[0]) || !crl.Same(l, sample.Crl(sample.Name("o", "ca"), signers[0])) || !stamp.Same(s, sample.Stamp([]byte("s"), 2000, same, sample.EC(5))) {
		t.Error("what is handed in is changed")
	}
}
