package ecdsa_test

import (
	lib "crypto/ecdsa"
	"crypto/elliptic"
	crand "crypto/rand"
	"crypto/sha256"
	"math"
	"math/big"
	"testing"

	"apostille/api"
	"apostille/curve"
	"apostille/ecdsa"
	"apostille/mod"
	"apostille/nat"
)

// of is a number of Go's library as ours.
func of(x *big.Int) api.Nat { return nat.Of(x.Bytes()) }

// key is the public key of a secret number.
func key(d uint32) api.Key {
	return api.Key{Alg: api.EC, P: curve.Times(api.Nat{d}, curve.G())}
}

// sign signs by a secret number and another one.
func sign(d, k uint32, digest []byte) api.Pair {
	n := curve.N()
	_, r, _ := nat.Div(curve.Times(api.Nat{k}, curve.G()).X, n)
	rd, _ := mod.Mul(r, api.Nat{d}, n)
	sum, _ := mod.Add(nat.Of(digest), rd, n)
	inv, _ := mod.Inv(api.Nat{k}, n)
	s, _ := mod.Mul(sum, inv, n)
	return api.Pair{R: r, S: s}
}

func digest(s string) []byte {
	d := sha256.Sum256([]byte(s))
	return d[:]
}

// P11.1
func TestIs(t *testing.T) {
	k := key(7)
	with := func(f func(k *api.Key)) api.Key {
		c := k
		f(&c)
		return c
	}
	for i, c := range []struct {
		k    api.Key
		want bool
	}{
		{k, true},
		{with(func(k *api.Key) { k.N = api.Nat{} }), true},
		{with(func(k *api.Key) { k.Alg = api.RSA }), false},
		{with(func(k *api.Key) { k.Alg = 0 }), false},
		{with(func(k *api.Key) { k.N = api.Nat{1} }), false},
		{with(func(k *api.Key) { k.N = api.Nat{0} }), false},
		{with(func(k *api.Key) { k.E = 3 }), false},
		{with(func(k *api.Key) { k.P = api.Point{Inf: true} }), false},
		{with(func(k *api.Key) { k.P = api.Point{} }), false},
		{with(func(k *api.Key) { k.P.X = k.P.Y }), false},
		{with(func(k *api.Key) { k.P.Inf = true }), false},
	} {
		if ecdsa.Is(c.k) != c.want {
			t.Error(i)
		}
		if ecdsa.Verify(c.k, digest("x"), sign(7, 5, digest("x"))) != c.want {
			t.Error("Verify", i)
		}
	}
}

// P11.1: what Go's library signed is well, and what we sign is well for it.
func TestAgainstTheLibrary(t *testing.T) {
	for range 10 {
		secret, err := lib.GenerateKey(elliptic.P256(), crand.Reader)
		if err != nil {
			t.Fatal(err)
		}
		k := api.Key{Alg: api.EC, P: api.Point{X: of(secret.X), Y: of(secret.Y)}}
		r, s, err := lib.Sign(crand.Reader, secret, digest("apostille"))
		if err != nil {
			t.Fatal(err)
		}
		if !ecdsa.Verify(k, digest("apostille"), api.Pair{R: of(r), S: of(s)}) {
			t.Fatal("a good signature is refused", secret.D, r, s)
		}
		if ecdsa.Verify(k, digest("apostillE"), api.Pair{R: of(r), S: of(s)}) {
			t.Fatal("a digest that was not signed")
		}
	}
	p := sign(11, 13, digest("a"))
	x, y := key(11).P.X, key(11).P.Y
	big := func(a api.Nat) *big.Int {
		b, _ := nat.Bytes(a, 32)
		return new(big.Int).SetBytes(b)
	}
	public := &lib.PublicKey{Curve: elliptic.P256(), X: big(x), Y: big(y)}
	if !lib.Verify(public, digest("a"), big(p.R), big(p.S)) || !ecdsa.Verify(key(11), digest("a"), p) {
		t.Error("what we sign")
	}
}

// P11.1
func TestVerifyRefuses(t *testing.T) {
	k, d := key(21), digest("b")
	p := sign(21, 33, d)
	if !ecdsa.Verify(k, d, p) {
		t.Fatal("a good signature")
	}
	great := make(api.Nat, 300)
	for i := range great {
		great[i] = math.MaxUint32
	}
	for i, c := range []struct {
		d []byte
		p api.Pair
	}{
		{digest("c"), p},
		{nil, p},
		{d[:31], p},
		{append([]byte{0}, d...), p},
		{d, api.Pair{}},
		{d, api.Pair{S: p.S}},
		{d, api.Pair{R: p.R}},
		{d, api.Pair{R: p.S, S: p.R}},
		{d, api.Pair{R: nat.Add(p.R, curve.N()), S: p.S}},
		{d, api.Pair{R: p.R, S: nat.Add(p.S, curve.N())}},
		{d, api.Pair{R: curve.N(), S: p.S}},
		{d, api.Pair{R: p.R, S: curve.N()}},
		{d, api.Pair{R: append(append(api.Nat{}, p.R...), 0), S: p.S}},
		{d, api.Pair{R: p.R, S: append(append(api.Nat{}, p.S...), 0)}},
		{d, api.Pair{R: great, S: great}},
		{d, api.Pair{R: api.Nat{0}, S: api.Nat{0}}},
		{d, api.Pair{R: nat.Add(p.R, api.Nat{1}), S: p.S}},
		{d, api.Pair{R: p.R, S: nat.Add(p.S, api.Nat{1})}},
	} {
		if ecdsa.Verify(k, c.d, c.p) {
			t.Error(i)
		}
	}
	if ecdsa.Verify(key(22), d, p) {
		t.Error("another key")
	}
}

// P11.1: the sum is Inf: z is N less R times d.
func TestSumIsInf(t *testing.T) {
	n := curve.N()
	r := curve.G().X
	rd, _ := mod.Mul(r, api.Nat{5}, n)
	z, _ := nat.Sub(n, rd)
	d, ok := nat.Bytes(z, 32)
	if !ok || ecdsa.Verify(key(5), d, api.Pair{R: r, S: api.Nat{9}}) {
		t.Error("a sum that is Inf")
	}
}

// P11.1: digests at their edges; z may be N and more.
func TestDigests(t *testing.T) {
	for _, c := range []byte{0, 1, 255} {
		d := make([]byte, 32)
		for i := range d {
			d[i] = c
		}
		p := sign(3, 4, d)
		if !ecdsa.Verify(key(3), d, p) {
			t.Error("a digest of", c)
		}
	}
}

// P11.1, P11.2: S at its edges: of z, the secret number times R and S 1 is well.
func TestEdgesOfS(t *testing.T) {
	n := curve.N()
	_, r, _ := nat.Div(curve.Times(api.Nat{5}, curve.G()).X, n)
	rd, _ := mod.Mul(r, api.Nat{7}, n)
	z, _ := mod.Sub(api.Nat{5}, rd, n)
	d, _ := nat.Bytes(z, 32)
	last, _ := nat.Sub(n, api.Nat{1})
	for i, c := range []struct {
		s    api.Nat
		want bool
	}{{nil, false}, {api.Nat{1}, true}, {api.Nat{2}, false}, {last, true}, {n, false}, {nat.Add(n, api.Nat{1}), false}} {
		if ecdsa.Verify(key(7), d, api.Pair{R: r, S: c.s}) != c.want {
			t.Error(i)
		}
	}
}

// P11.2
func TestOtherS(t *testing.T) {
	d := digest("d")
	p := sign(8, 9, d)
	s, _ := nat.Sub(curve.N(), p.S)
	if !ecdsa.Verify(key(8), d, api.Pair{R: p.R, S: s}) || ecdsa.Verify(key(8), digest("e"), api.Pair{R: p.R, S: s}) {
		t.Error("N less S")
	}
}
