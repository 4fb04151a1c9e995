package nat_test

import (
	"bytes"
	"math"
	"math/big"
	"math/rand"
	"slices"
	"testing"

	"apostille/api"
	"apostille/nat"
)

// wide is a number as Go's library has it.
func wide(a api.Nat) *big.Int {
	x := new(big.Int)
	for i := len(a) - 1; i >= 0; i-- {
		x.Lsh(x, 32).Or(x, big.NewInt(int64(a[i])))
	}
	return x
}

// is tells whether an answer is such, but for how many digits it has, and that number.
func is(a api.Nat, x *big.Int) bool {
	return (len(a) == 0 || a[len(a)-1] != 0) && wide(a).Cmp(x) == 0
}

// some is a number of at most n digits; its digits are often at an edge.
func some(r *rand.Rand, n int) api.Nat {
	a := make(api.Nat, r.Intn(n+1))
	for i := range a {
		switch r.Intn(4) {
		case 0:
			a[i] = math.MaxUint32
		case 1:
			a[i] = uint32(r.Intn(3))
		case 2:
			a[i] = 1 << 31
		default:
			a[i] = r.Uint32()
		}
	}
	for len(a) > 0 && a[len(a)-1] == 0 {
		a = a[:len(a)-1]
	}
	return a
}

// full is a number of n digits, each the greatest.
func full(n int) api.Nat {
	a := make(api.Nat, n)
	for i := range a {
		a[i] = math.MaxUint32
	}
	return a
}

// P7.1
func TestIs(t *testing.T) {
	for i, c := range []struct {
		a    api.Nat
		want bool
	}{
		{nil, true},
		{api.Nat{}, true},
		{api.Nat{1}, true},
		{api.Nat{0}, false},
		{api.Nat{0, 1}, true},
		{api.Nat{1, 0}, false},
		{full(256), true},
		{full(257), false},
	} {
		if nat.Is(c.a) != c.want {
			t.Error(i)
		}
	}
}

// P7.1
func TestOf(t *testing.T) {
	for i, c := range []struct {
		b    []byte
		want api.Nat
	}{
		{nil, nil},
		{[]byte{0}, nil},
		{make([]byte, 1024), nil},
		{[]byte{1, 0, 0, 0, 0}, api.Nat{0, 1}},
		{[]byte{0, 0, 0, 0, 0, 1, 2, 3, 4, 5}, api.Nat{0x02030405, 1}},
		{bytes.Repeat([]byte{255}, 1024), full(256)},
		{bytes.Repeat([]byte{255}, 1025), nil},
		{make([]byte, 1025), nil},
		{[]byte{1, 2, 3, 4}, api.Nat{0x01020304}},
	} {
		if got := nat.Of(c.b); !slices.Equal(got, c.want) {
			t.Error(i, got)
		}
	}
}

// P7.1
func TestBytes(t *testing.T) {
	for i, c := range []struct {
		a    api.Nat
		n    int
		want []byte
		ok   bool
	}{
		{nil, 0, nil, true},
		{nil, 2, []byte{0, 0}, true},
		{nil, -1, nil, false},
		{nil, math.MinInt, nil, false},
		{nil, math.MaxInt, nil, false},
		{nil, 2048, make([]byte, 2048), true},
		{nil, 2049, nil, false},
		{api.Nat{1}, 0, nil, false},
		{api.Nat{255}, 1, []byte{255}, true},
		{api.Nat{256}, 1, nil, false},
		{api.Nat{256}, 3, []byte{0, 1, 0}, true},
		{api.Nat{5, 1}, 4, nil, false},
		{api.Nat{5, 1}, 5, []byte{1, 0, 0, 0, 5}, true},
		{full(512), 2048, bytes.Repeat([]byte{255}, 2048), true},
		{full(512), 2047, nil, false},
		{full(513), 2048, nil, false},
	} {
		got, ok := nat.Bytes(c.a, c.n)
		if ok != c.ok || !bytes.Equal(got, c.want) || !ok && got != nil {
			t.Error(i, got, ok)
		}
	}
}

// P7.1
func TestBits(t *testing.T) {
	for i, c := range []struct {
		a    api.Nat
		want int
	}{{nil, 0}, {api.Nat{1}, 1}, {api.Nat{2}, 2}, {api.Nat{255}, 8}, {api.Nat{0, 1}, 33}, {full(256), 8192}, {full(512), 16384}} {
		if got := nat.Bits(c.a); got != c.want {
			t.Error(i, got)
		}
	}
}

// P7.1
func TestCmp(t *testing.T) {
	for i, c := range []struct {
		a, b api.Nat
		want int
	}{
		{nil, nil, 0}, {nil, api.Nat{1}, -1}, {api.Nat{1}, nil, 1}, {api.Nat{9, 1}, api.Nat{1, 2}, -1},
		{api.Nat{1, 2}, api.Nat{2, 2}, -1}, {api.Nat{0, 1}, api.Nat{math.MaxUint32}, 1}, {full(9), full(9), 0},
	} {
		if got := nat.Cmp(c.a, c.b); got != c.want {
			t.Error(i, got)
		}
	}
}

// P7.1, P7.2
func TestAgainstTheLibrary(t *testing.T) {
	r := rand.New(rand.NewSource(7))
	for range 20000 {
		n := 1 + r.Intn(9)
		a, b := some(r, n), some(r, 1+r.Intn(n))
		x, y := wide(a), wide(b)
		if nat.Cmp(a, b) != x.Cmp(y) || nat.Bits(a) != x.BitLen() {
			t.Fatal("Cmp, Bits", a, b)
		}
		if !is(nat.Add(a, b), new(big.Int).Add(x, y)) || !is(nat.Add(b, a), new(big.Int).Add(x, y)) {
			t.Fatal("Add", a, b)
		}
		if !is(nat.Mul(a, b), new(big.Int).Mul(x, y)) {
			t.Fatal("Mul", a, b)
		}
		d, ok := nat.Sub(a, b)
		if ok != (x.Cmp(y) >= 0) || ok && !is(d, new(big.Int).Sub(x, y)) || !ok && d != nil {
			t.Fatal("Sub", a, b)
		}
		q, left, ok := nat.Div(a, b)
		if ok != (len(b) > 0) || !ok && (q != nil || left != nil) {
			t.Fatal("Div", a, b)
		}
		if ok {
			u, v := new(big.Int).QuoRem(x, y, new(big.Int))
			if !is(q, u) || !is(left, v) {
				t.Fatal("Div", a, b, q, left)
			}
		}
	}
}

// P7.1, P7.2: as great as may be asked.
func TestGreat(t *testing.T) {
	a := full(256)
	sq := nat.Mul(a, a)
	double := nat.Add(sq, sq)
	if len(sq) != 512 || len(double) != 513 || !is(nat.Mul(sq, sq), new(big.Int).Exp(wide(a), big.NewInt(4), nil)) {
		t.Error("great products")
	}
	q, left, ok := nat.Div(sq, a)
	if !ok || nat.Cmp(q, a) != 0 || len(left) != 0 {
		t.Error("Div of a product")
	}
	r := rand.New(rand.NewSource(8))
	for range 200 {
		x, y := nat.Mul(some(r, 256), some(r, 256)), some(r, 300)
		if len(y) == 0 {
			continue
		}
		q, left, _ := nat.Div(x, y)
		if nat.Cmp(left, y) >= 0 || nat.Cmp(nat.Add(nat.Mul(q, y), left), x) != 0 {
			t.Fatal("a is not q times b and r")
		}
	}
}

// P7.2
func TestMemory(t *testing.T) {
	a, b := api.Nat{5, 6, 7}, api.Nat{3, 2}
	keptA, keptB := slices.Clone(a), slices.Clone(b)
	d, _ := nat.Sub(a, nil)
	q, r, _ := nat.Div(b, a)
	q1, r1, _ := nat.Div(a, api.Nat{1})
	q2, r2, _ := nat.Div(a, b)
	bs := []api.Nat{nat.Add(a, nil), nat.Add(nil, a), nat.Mul(a, api.Nat{1}), d, q, r, q1, r1, q2, r2}
	for _, x := range bs {
		x = x[:cap(x)]
		for i := range x {
			x[i] = 99
		}
	}
	if !slices.Equal(a, keptA) || !slices.Equal(b, keptB) {
		t.Error("memory is shared", a, b)
	}
}

// W1: numbers with noughts at their ends are none; nothing panics.
func TestNoSuch(t *testing.T) {
	odd := []api.Nat{{0}, {0, 0, 0}, {5, 0}, {5, 6, 0, 0}, full(600)}
	for _, a := range odd {
		for _, b := range odd {
			nat.Add(a, b)
			nat.Sub(a, b)
			nat.Mul(a, b)
			nat.Div(a, b)
			nat.Cmp(a, b)
			nat.Bits(a)
			nat.Bytes(a, 20)
		}
	}
}
