package rsa_test

import (
	"bytes"
	"crypto"
	lib "crypto/rsa"
	"crypto/sha256"
	"math"
	"math/big"
	"testing"

	"apostille/api"
	"apostille/nat"
	"apostille/rsa"
)

// of is a number of Go's library as ours.
func of(x *big.Int) api.Nat { return nat.Of(x.Bytes()) }

// key is an RSA key of so many bytes, made of two fixed primes: its N, and what signs.
func key(t *testing.T, half uint, e int64) (api.Key, *big.Int) {
	t.Helper()
	prime := func(from int64) *big.Int {
		p := new(big.Int).Lsh(big.NewInt(3), half*8-2)
		p.Add(p, big.NewInt(from))
		for !p.ProbablyPrime(10) || new(big.Int).GCD(nil, nil, big.NewInt(e), new(big.Int).Sub(p, big.NewInt(1))).Int64() != 1 {
			p.Add(p, big.NewInt(2))
		}
		return p
	}
	p, q := prime(1), prime(99999)
	n := new(big.Int).Mul(p, q)
	one := big.NewInt(1)
	phi := new(big.Int).Mul(new(big.Int).Sub(p, one), new(big.Int).Sub(q, one))
	return api.Key{Alg: api.RSA, N: of(n), E: uint32(e)}, new(big.Int).ModInverse(big.NewInt(e), phi)
}

// wide is a number as Go's library has it.
func wide(a api.Nat) *big.Int {
	b, _ := nat.Bytes(a, len(a)*4)
	return new(big.Int).SetBytes(b)
}

// size is how many bytes a key's N has.
func size(k api.Key) int { return (nat.Bits(k.N) + 7) / 8 }

// raw signs a frame, whatever it is.
func raw(k api.Key, d *big.Int, frame []byte) []byte {
	s := new(big.Int).Exp(new(big.Int).SetBytes(frame), d, wide(k.N))
	return s.FillBytes(make([]byte, size(k)))
}

// sign signs a digest.
func sign(t *testing.T, k api.Key, d *big.Int, digest []byte) []byte {
	t.Helper()
	frame, ok := rsa.Frame(digest, size(k))
	if !ok {
		t.Fatal("no frame")
	}
	return raw(k, d, frame)
}

// P9.1
func TestIs(t *testing.T) {
	of := func(digits int) api.Nat {
		n := make(api.Nat, digits)
		for i := range n {
			n[i] = math.MaxUint32
		}
		return n
	}
	low := of(16)
	low[15] >>= 1
	even := of(16)
	even[0]--
	past := append(of(128), 1)
	for i, c := range []struct {
		k    api.Key
		want bool
	}{
		{api.Key{Alg: api.RSA, N: of(16), E: 3}, true},
		{api.Key{Alg: api.RSA, N: of(128), E: math.MaxUint32}, true},
		{api.Key{Alg: api.RSA, N: of(16), E: 3, P: api.Point{X: api.Nat{}, Y: api.Nat{}}}, true},
		{api.Key{Alg: api.EC, N: of(16), E: 3}, false},
		{api.Key{N: of(16), E: 3}, false},
		{api.Key{Alg: api.RSA, N: low, E: 3}, false},
		{api.Key{Alg: api.RSA, N: past, E: 3}, false},
		{api.Key{Alg: api.RSA, N: of(300), E: 3}, false},
		{api.Key{Alg: api.RSA, N: even, E: 3}, false},
		{api.Key{Alg: api.RSA, N: append(of(16), 0), E: 3}, false},
		{api.Key{Alg: api.RSA, E: 3}, false},
		{api.Key{Alg: api.RSA, N: of(16), E: 1}, false},
		{api.Key{Alg: api.RSA, N: of(16), E: 0}, false},
		{api.Key{Alg: api.RSA, N: of(16), E: 4}, false},
		{api.Key{Alg: api.RSA, N: of(16), E: 3, P: api.Point{Inf: true}}, false},
		{api.Key{Alg: api.RSA, N: of(16), E: 3, P: api.Point{X: api.Nat{1}}}, false},
		{api.Key{Alg: api.RSA, N: of(16), E: 3, P: api.Point{Y: api.Nat{1}}}, false},
	} {
		if rsa.Is(c.k) != c.want {
			t.Error(i)
		}
	}
}

// P9.1
func TestFrame(t *testing.T) {
	digest := bytes.Repeat([]byte{7}, 32)
	head := []byte{0, 0x30, 0x31, 0x30, 0x0d, 6, 9, 0x60, 0x86, 0x48, 1, 0x65, 3, 4, 2, 1, 5, 0, 4, 0x20}
	for n, ff := range map[int]int{62: 8, 63: 9, 64: 10, 512: 458, 1024: 970} {
		want := append([]byte{0, 1}, bytes.Repeat([]byte{255}, ff)...)
		want = append(append(want, head...), digest...)
		if got, ok := rsa.Frame(digest, n); !ok || !bytes.Equal(got, want) || len(got) != n {
			t.Error(n, got)
		}
	}
	for _, n := range []int{math.MinInt, -1, 0, 61, 1025, math.MaxInt} {
		if got, ok := rsa.Frame(digest, n); ok || got != nil {
			t.Error(n)
		}
	}
	for _, n := range []int{0, 31, 33} {
		if got, ok := rsa.Frame(make([]byte, n), 64); ok || got != nil {
			t.Error("a digest of", n)
		}
	}
}

// P9.1: what Go's library signed is well.
func TestAgainstTheLibrary(t *testing.T) {
	for _, e := range []int64{3, 65537} {
		k, d := key(t, 128, e)
		digest := sha256.Sum256([]byte("apostille"))
		sig := sign(t, k, d, digest[:])
		if !rsa.Verify(k, digest[:], sig) {
			t.Error("a good signature is refused")
		}
		if err := lib.VerifyPKCS1v15(&lib.PublicKey{N: wide(k.N), E: int(e)}, crypto.SHA256, digest[:], sig); err != nil && e == 65537 {
			t.Error(err)
		}
	}
}

// P9.1
func TestVerifyRefuses(t *testing.T) {
	k, d := key(t, 32, 65537)
	digest := bytes.Repeat([]byte{9}, 32)
	sig := sign(t, k, d, digest)
	if len(sig) != 64 || !rsa.Verify(k, digest, sig) {
		t.Fatal("a good signature")
	}
	for i := range sig {
		b := bytes.Clone(sig)
		b[i] ^= 1
		if rsa.Verify(k, digest, b) {
			t.Error("byte", i)
		}
	}
	other := bytes.Clone(digest)
	other[31] ^= 1
	great := new(big.Int).Add(new(big.Int).SetBytes(sig), wide(k.N))
	for i, c := range []struct {
		digest, sig []byte
	}{
		{other, sig},
		{nil, sig},
		{digest[:31], sig},
		{digest, nil},
		{digest, sig[1:]},
		{digest, append([]byte{0}, sig...)},
		{digest, append(bytes.Clone(sig), 0)},
		{digest, great.FillBytes(make([]byte, 65))},
		{digest, bytes.Repeat([]byte{255}, 64)},
		{digest, make([]byte, 64)},
	} {
		if rsa.Verify(k, c.digest, c.sig) {
			t.Error(i)
		}
	}
	none := k
	none.E = 65538
	if rsa.Verify(none, digest, sig) {
		t.Error("a key that is none")
	}
	none = k
	none.Alg = api.EC
	if rsa.Verify(none, digest, sig) {
		t.Error("a key of another kind")
	}
}

// P9.1: frames that are not just so.
func TestVerifyFrames(t *testing.T) {
	k, d := key(t, 64, 3)
	digest := bytes.Repeat([]byte{9}, 32)
	frame, _ := rsa.Frame(digest, 128)
	if !rsa.Verify(k, digest, raw(k, d, frame)) {
		t.Fatal("a good frame")
	}
	for i := range frame {
		b := bytes.Clone(frame)
		b[i] ^= 2
		if i > 0 && rsa.Verify(k, digest, raw(k, d, b)) {
			t.Error("byte", i)
		}
	}
	// Fewer ff, and something behind the digest.
	short, _ := rsa.Frame(digest, 100)
	if rsa.Verify(k, digest, raw(k, d, append(short, make([]byte, 28)...))) {
		t.Error("bytes behind the digest")
	}
	if rsa.Verify(k, digest, raw(k, d, short)) {
		t.Error("a short frame")
	}
}

// P9.1: sig's number has to be below N, where one more N would still fit.
func TestVerifyBelowN(t *testing.T) {
	k, d := key(t, 32, 3)
	digest := bytes.Repeat([]byte{1}, 32)
	for c := range byte(200) {
		digest[0] = c
		sig := sign(t, k, d, digest)
		more := new(big.Int).Add(new(big.Int).SetBytes(sig), wide(k.N))
		if more.BitLen() > 512 {
			continue
		}
		if rsa.Verify(k, digest, more.FillBytes(make([]byte, 64))) {
			t.Error("a number that is not below N")
		}
		return
	}
	t.Error("none was tried")
}

// P9.2
func TestOneDigest(t *testing.T) {
	k, d := key(t, 32, 3)
	digest := bytes.Repeat([]byte{9}, 32)
	sig := sign(t, k, d, digest)
	for i := range 256 {
		b := bytes.Clone(digest)
		b[i/8] ^= 1 << (i % 8)
		if rsa.Verify(k, b, sig) {
			t.Error("another digest is well", i)
		}
	}
}
