package mod_test

import (
	"math"
	"math/big"
	"math/rand"
	"slices"
	"testing"

	"apostille/api"
	"apostille/mod"
	"apostille/nat"
)

// wide is a number as Go's library has it.
func wide(a api.Nat) *big.Int {
	x := new(big.Int)
	for i := len(a) - 1; i >= 0; i-- {
		x.Lsh(x, 32).Or(x, big.NewInt(int64(a[i])))
	}
	return x
}

// some is a number of at most n digits.
func some(r *rand.Rand, n int) api.Nat {
	a := make(api.Nat, r.Intn(n+1))
	for i := range a {
		a[i] = r.Uint32() >> (r.Intn(4) * 8)
		if r.Intn(3) == 0 {
			a[i] = math.MaxUint32
		}
	}
	for len(a) > 0 && a[len(a)-1] == 0 {
		a = a[:len(a)-1]
	}
	return a
}

// is tells whether an answer is such, below m, and that number.
func is(a api.Nat, x *big.Int, m api.Nat) bool {
	return nat.Is(a) && wide(a).Cmp(x) == 0 && nat.Cmp(a, m) < 0
}

// P8.1, P8.2
func TestAgainstTheLibrary(t *testing.T) {
	r := rand.New(rand.NewSource(8))
	inverses := 0
	for range 6000 {
		a, b, m := some(r, 6), some(r, 6), some(r, 4)
		if len(m) == 0 {
			continue
		}
		x, y, z := wide(a), wide(b), wide(m)
		c := new(big.Int)
		if got, ok := mod.Add(a, b, m); !ok || !is(got, c.Mod(c.Add(x, y), z), m) {
			t.Fatal("Add", a, b, m)
		}
		if got, ok := mod.Sub(a, b, m); !ok || !is(got, c.Mod(c.Sub(x, y), z), m) {
			t.Fatal("Sub", a, b, m, got)
		}
		if got, ok := mod.Mul(a, b, m); !ok || !is(got, c.Mod(c.Mul(x, y), z), m) {
			t.Fatal("Mul", a, b, m)
		}
		if got, ok := mod.Exp(a, b, m); !ok || !is(got, c.Exp(x, y, z), m) {
			t.Fatal("Exp", a, b, m)
		}
		got, ok := mod.Inv(a, m)
		want := c.ModInverse(x, z)
		if nat.Cmp(m, api.Nat{1}) <= 0 {
			want = nil
		}
		if ok != (want != nil) || ok && !is(got, want, m) || !ok && got != nil {
			t.Fatal("Inv", a, m, got)
		}
		if ok {
			inverses++
		}
	}
	if inverses < 100 {
		t.Error("few inverses were tried", inverses)
	}
}

// P8.1
func TestEdges(t *testing.T) {
	five := api.Nat{5}
	for name, f := range map[string]func(a, b, m api.Nat) (api.Nat, bool){"Add": mod.Add, "Sub": mod.Sub, "Mul": mod.Mul, "Exp": mod.Exp} {
		if got, ok := f(five, five, nil); ok || got != nil {
			t.Error(name, "by 0")
		}
		if got, ok := f(five, five, api.Nat{1}); !ok || len(got) != 0 {
			t.Error(name, "by 1")
		}
	}
	for i, c := range []struct {
		a, m, want api.Nat
		ok         bool
	}{
		{api.Nat{3}, api.Nat{7}, api.Nat{5}, true},
		{api.Nat{10}, api.Nat{7}, api.Nat{5}, true},
		{api.Nat{1}, api.Nat{2}, api.Nat{1}, true},
		{api.Nat{1}, api.Nat{7}, api.Nat{1}, true},
		{api.Nat{6}, api.Nat{7}, api.Nat{6}, true},
		{api.Nat{1}, api.Nat{1}, nil, false},
		{nil, api.Nat{1}, nil, false},
		{api.Nat{1}, nil, nil, false},
		{nil, api.Nat{7}, nil, false},
		{api.Nat{7}, api.Nat{7}, nil, false},
		{api.Nat{4}, api.Nat{6}, nil, false},
	} {
		if got, ok := mod.Inv(c.a, c.m); ok != c.ok || !slices.Equal(got, c.want) {
			t.Error(i, got, ok)
		}
	}
	if got, ok := mod.Exp(nil, nil, api.Nat{7}); !ok || !slices.Equal(got, api.Nat{1}) {
		t.Error("0, no times over", got)
	}
	if got, ok := mod.Exp(nil, five, api.Nat{7}); !ok || len(got) != 0 {
		t.Error("0, five times over", got)
	}
	if got, ok := mod.Sub(nil, api.Nat{20}, api.Nat{7}); !ok || !slices.Equal(got, api.Nat{1}) {
		t.Error("as many m more as it needs", got)
	}
}

// P8.1: as great as may be.
func TestGreat(t *testing.T) {
	r := rand.New(rand.NewSource(9))
	m, a := make(api.Nat, 256), make(api.Nat, 256)
	for i := range m {
		m[i], a[i] = r.Uint32()|1, r.Uint32()|1
	}
	e := api.Nat{65537, 3}
	if got, ok := mod.Exp(a, e, m); !ok || !is(got, new(big.Int).Exp(wide(a), wide(e), wide(m)), m) {
		t.Error("Exp")
	}
	inv, ok := mod.Inv(a, m)
	want := new(big.Int).ModInverse(wide(a), wide(m))
	if ok != (want != nil) || ok && !is(inv, want, m) {
		t.Error("Inv")
	}
}

// P8.2
func TestMemory(t *testing.T) {
	a, b, m := api.Nat{5, 6}, api.Nat{3, 2}, api.Nat{9, 9}
	for _, f := range []func(a, b, m api.Nat) (api.Nat, bool){mod.Add, mod.Sub, mod.Mul, mod.Exp} {
		for _, x := range []api.Nat{nil, {1}, b} {
			got, _ := f(a, x, m)
			got = got[:cap(got)]
			for i := range got {
				got[i] = 99
			}
		}
	}
	got, _ := mod.Inv(api.Nat{1}, m)
	got[0] = 99
	if !slices.Equal(a, api.Nat{5, 6}) || !slices.Equal(b, api.Nat{3, 2}) || !slices.Equal(m, api.Nat{9, 9}) {
		t.Error("memory is shared")
	}
}
