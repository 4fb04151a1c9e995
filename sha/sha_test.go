package sha_test

import (
	"bytes"
	"crypto/sha256"
	"encoding/hex"
	"math/rand"
	"testing"

	"apostille/sha"
)

// P6.1
func TestKnown(t *testing.T) {
	for in, want := range map[string]string{
		"":    "e3b0c44298fc1c149afbf4c8996fb92427ae41e4649b934ca495991b7852b855",
		"abc": "ba7816bf8f01cfea414140de5dae2223b00361a396177a9cb410ff61f20015ad",
		"abcdbcdecdefdefgefghfghighijhijkijkljklmklmnlmnomnopnopq": "248d6a61d20638b8e5c026930c3e6039a33ce45964ff2167f6ecedd419db06c1",
	} {
		if got := hex.EncodeToString(sha.Of([]byte(in))); got != want {
			t.Errorf("%q: %s", in, got)
		}
	}
	if !bytes.Equal(sha.Of(), sha.Of(nil)) || !bytes.Equal(sha.Of(nil, []byte{}), sha.Of()) {
		t.Error("no rows")
	}
}

// P6.1: every length around the edges of a block.
func TestLengths(t *testing.T) {
	r := rand.New(rand.NewSource(6))
	for n := range 300 {
		b := make([]byte, n)
		r.Read(b)
		want := sha256.Sum256(b)
		if !bytes.Equal(sha.Of(b), want[:]) {
			t.Errorf("%d bytes", n)
		}
	}
	b := bytes.Repeat([]byte("apostille"), 100000)
	want := sha256.Sum256(b)
	if !bytes.Equal(sha.Of(b), want[:]) {
		t.Error("many bytes")
	}
}

// P6.1
func TestBlock(t *testing.T) {
	start := [8]uint32{0x6a09e667, 0xbb67ae85, 0x3c6ef372, 0xa54ff53a, 0x510e527f, 0x9b05688c, 0x1f83d9ab, 0x5be0cd19}
	b := make([]byte, 64)
	copy(b, "abc\x80")
	b[63] = 24
	want := [8]uint32{0xba7816bf, 0x8f01cfea, 0x414140de, 0x5dae2223, 0xb00361a3, 0x96177a9c, 0xb410ff61, 0xf20015ad}
	if got := sha.Block(start, b); got != want {
		t.Errorf("%x", got)
	}
	for _, n := range []int{0, 1, 63, 65, 128} {
		if sha.Block(start, make([]byte, n)) != start {
			t.Errorf("a block of %d bytes", n)
		}
	}
	if sha.Block(start, nil) != start {
		t.Error("no block")
	}
}

// P6.2
func TestParts(t *testing.T) {
	r := rand.New(rand.NewSource(7))
	b := make([]byte, 500)
	r.Read(b)
	kept := bytes.Clone(b)
	want := sha.Of(b)
	for range 200 {
		var rows [][]byte
		for rest := b; len(rest) > 0; {
			n := r.Intn(min(len(rest), 130) + 1)
			rows = append(rows, rest[:n])
			rest = rest[n:]
		}
		if !bytes.Equal(sha.Of(rows...), want) {
			t.Fatal("parts matter")
		}
	}
	sha.Of(b[:10], b[10:20])
	if !bytes.Equal(b, kept) {
		t.Error("what is handed in is changed")
	}
}
