// Package sample makes keys, signatures and signed things for the tests of
// the other packages. Its secret numbers are small and written out here:
// nothing that it signs is safe.
package sample

import (
	"apostille/api"
	"apostille/atom"
	"apostille/curve"
	"apostille/mod"
	"apostille/nat"
	"apostille/rsa"
	"apostille/sha"
	"apostille/tlv"
)

// Signer is a key, and the secret number that signs for it.
type Signer struct {
	Key    api.Key
	secret api.Nat
}

// EC is a signer by points, of a secret number from 1 on.
func EC(secret uint32) Signer {
	d := api.Nat{secret}
	return Signer{Key: api.Key{Alg: api.EC, P: curve.Times(d, curve.G())}, secret: d}
}

// RSA is the signer by RSA: a key of 512 digits, whose E is 65537.
func RSA() Signer {
	p := shifted(0x31)
	q := shifted(0x77)
	one := api.Nat{1}
	pLess, _ := nat.Sub(p, one)
	qLess, _ := nat.Sub(q, one)
	const e = 65537
	d, _ := mod.Inv(api.Nat{e}, nat.Mul(pLess, qLess))
	return Signer{Key: api.Key{Alg: api.RSA, N: nat.Mul(p, q), E: e}, secret: d}
}

// shifted is three times 2^254, and a number.
func shifted(more uint32) api.Nat {
	high := make(api.Nat, 8)
	high[7] = 3 << 30
	return nat.Add(high, api.Nat{more})
}

// Sign signs a digest.
func (s Signer) Sign(digest []byte) []byte {
	if s.Key.Alg == api.RSA {
		size := (nat.Bits(s.Key.N) + 7) / 8
		frame, _ := rsa.Frame(digest, size)
		power, _ := mod.Exp(nat.Of(frame), s.secret, s.Key.N)
		b, _ := nat.Bytes(power, size)
		return b
	}
	return Pair(s.Pair(digest))
}

// Pair is a signature by points of a digest, as numbers.
func (s Signer) Pair(digest []byte) api.Pair {
	n := curve.N()
	secret, _ := nat.Bytes(s.secret, 4)
	k := nat.Of(sha.Of(digest, secret)[1:])
	_, r, _ := nat.Div(curve.Times(k, curve.G()).X, n)
	rd, _ := mod.Mul(r, s.secret, n)
	sum, _ := mod.Add(nat.Of(digest), rd, n)
	inverse, _ := mod.Inv(k, n)
	v, _ := mod.Mul(sum, inverse, n)
	return api.Pair{R: r, S: v}
}

// Pair is the bytes of a signature by points.
func Pair(p api.Pair) []byte {
	return tlv.Bytes(atom.Seq(0x30, atom.Int(p.R), atom.Int(p.S)))
}
