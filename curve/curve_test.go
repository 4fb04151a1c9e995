package curve_test

import (
	"crypto/elliptic"
	"math"
	"math/big"
	"math/rand"
	"slices"
	"testing"

	"apostille/api"
	"apostille/curve"
	"apostille/nat"
)

var inf = api.Point{Inf: true}

// of is a number of Go's library as ours.
func of(x *big.Int) api.Nat { return nat.Of(x.Bytes()) }

// wide is a number as Go's library has it.
func wide(a api.Nat) *big.Int {
	x := new(big.Int)
	for i := len(a) - 1; i >= 0; i-- {
		x.Lsh(x, 32).Or(x, big.NewInt(int64(a[i])))
	}
	return x
}

// number is a number of hexadecimal digits.
func number(t *testing.T, s string) api.Nat {
	x, ok := new(big.Int).SetString(s, 16)
	if !ok {
		t.Fatal(s)
	}
	return of(x)
}

// minus is what a point's sum with is Inf.
func minus(p api.Point) api.Point {
	if p.Inf {
		return p
	}
	y, _ := nat.Sub(curve.P(), p.Y)
	return api.Point{X: p.X, Y: y}
}

// P10.1
func TestNumbers(t *testing.T) {
	for name, c := range map[string]struct {
		got  api.Nat
		want string
	}{
		"P":  {curve.P(), "ffffffff00000001000000000000000000000000ffffffffffffffffffffffff"},
		"N":  {curve.N(), "ffffffff00000000ffffffffffffffffbce6faada7179e84f3b9cac2fc632551"},
		"B":  {curve.B(), "5ac635d8aa3a93e7b3ebbd55769886bc651d06b0cc53b0f63bce3c3e27d2604b"},
		"Gx": {curve.G().X, "6b17d1f2e12c4247f8bce6e563a440f277037d812deb33a0f4a13945d898c296"},
		"Gy": {curve.G().Y, "4fe342e2fe1a7f9b8ee7eb4a7c0f9e162bce33576b315ececbb6406837bf51f5"},
	} {
		if !slices.Equal(c.got, number(t, c.want)) {
			t.Error(name, c.got)
		}
	}
	curve.P()[0] = 5
	curve.G().X[0] = 5
	if curve.P()[0] == 5 || curve.G().X[0] == 5 {
		t.Error("memory is shared")
	}
}

// P10.1
func TestIs(t *testing.T) {
	g := curve.G()
	y, _ := nat.Sub(g.Y, api.Nat{1})
	for i, c := range []struct {
		p    api.Point
		want bool
	}{
		{g, true},
		{minus(g), true},
		{inf, true},
		{api.Point{Inf: true, X: api.Nat{}, Y: api.Nat{}}, true},
		{api.Point{}, false},
		{api.Point{Inf: true, X: g.X, Y: g.Y}, false},
		{api.Point{Inf: true, X: api.Nat{0}}, false},
		{api.Point{Inf: true, Y: api.Nat{1}}, false},
		{api.Point{X: g.X, Y: y}, false},
		{api.Point{X: g.Y, Y: g.X}, false},
		{api.Point{X: nat.Add(g.X, curve.P()), Y: g.Y}, false},
		{api.Point{X: g.X, Y: nat.Add(g.Y, curve.P())}, false},
		{api.Point{X: append(slices.Clone(g.X), 0), Y: g.Y}, false},
		{api.Point{X: g.X, Y: append(slices.Clone(g.Y), 0)}, false},
		{api.Point{X: make(api.Nat, 1000), Y: make(api.Nat, 1000)}, false},
		{api.Point{X: g.X}, false},
	} {
		if curve.Is(c.p) != c.want {
			t.Error(i)
		}
	}
	// A point whose X is 0: its Y is the root of B.
	root := new(big.Int).ModSqrt(wide(curve.B()), wide(curve.P()))
	p := api.Point{Y: of(root)}
	if !curve.Is(p) || curve.Is(api.Point{X: curve.P(), Y: p.Y}) || curve.Is(api.Point{X: g.X, Y: curve.P()}) {
		t.Error("a point with X 0")
	}
	if !curve.Same(curve.Add(p, inf), p) || !curve.Same(curve.Times(api.Nat{1}, p), p) || !curve.Same(curve.Times(curve.N(), p), inf) || !curve.Same(curve.Add(p, minus(p)), inf) {
		t.Error("sums of a point with X 0")
	}
}

// P10.1, P10.2
func TestAgainstTheLibrary(t *testing.T) {
	c := elliptic.P256()
	r := rand.New(rand.NewSource(10))
	for range 60 {
		n := new(big.Int).Rand(r, c.Params().N)
		m := new(big.Int).Rand(r, c.Params().N)
		px, py := c.ScalarBaseMult(n.Bytes())
		qx, qy := c.ScalarMult(px, py, m.Bytes())
		p, q := curve.Times(of(n), curve.G()), curve.Times(of(m), curve.Times(of(n), curve.G()))
		if !curve.Same(p, api.Point{X: of(px), Y: of(py)}) || !curve.Same(q, api.Point{X: of(qx), Y: of(qy)}) {
			t.Fatal("Times", n, m)
		}
		x, y := c.Add(px, py, qx, qy)
		if !curve.Same(curve.Add(p, q), api.Point{X: of(x), Y: of(y)}) {
			t.Fatal("Add", n, m)
		}
		x, y = c.Double(px, py)
		if !curve.Same(curve.Add(p, p), api.Point{X: of(x), Y: of(y)}) {
			t.Fatal("Add of the same", n)
		}
		if !curve.Is(p) || !curve.Is(q) || !curve.Same(curve.Times(curve.N(), q), inf) {
			t.Fatal("no point", n, m)
		}
	}
}

// P10.1, P10.2
func TestEdges(t *testing.T) {
	g := curve.G()
	for i, c := range []struct{ got, want api.Point }{
		{curve.Add(g, inf), g},
		{curve.Add(inf, g), g},
		{curve.Add(inf, inf), inf},
		{curve.Add(g, minus(g)), inf},
		{curve.Add(minus(g), g), inf},
		{curve.Times(nil, g), inf},
		{curve.Times(api.Nat{1}, g), g},
		{curve.Times(api.Nat{2}, g), curve.Add(g, g)},
		{curve.Times(api.Nat{3}, g), curve.Add(curve.Add(g, g), g)},
		{curve.Times(api.Nat{77}, inf), inf},
		{curve.Times(nil, inf), inf},
		{curve.Times(curve.N(), g), inf},
		{curve.Times(nat.Add(curve.N(), api.Nat{1}), g), g},
		{curve.Times(nat.Add(curve.N(), nat.Add(curve.N(), api.Nat{5})), g), curve.Times(api.Nat{5}, g)},
	} {
		if !curve.Same(c.got, c.want) || !curve.Is(c.got) {
			t.Error(i, c.got)
		}
	}
	last, _ := nat.Sub(curve.N(), api.Nat{1})
	if !curve.Same(curve.Times(last, g), minus(g)) {
		t.Error("N less 1 times")
	}
	// Sums of small multiples, each with each: every case of Add comes up.
	var l []api.Point
	for k := range uint32(9) {
		p := curve.Times(nat.Add(api.Nat{k}, nil), g)
		l = append(l, p, minus(p))
	}
	for i, p := range l {
		for j, q := range l {
			n := signed(i) + signed(j)
			want := curve.Times(nat.Add(api.Nat{uint32(max(n, -n))}, nil), g)
			if n < 0 {
				want = minus(want)
			}
			if !curve.Same(curve.Add(p, q), want) {
				t.Fatal(i, j)
			}
		}
	}
}

// signed is how many times G the place of a list of multiples and their minus is.
func signed(i int) int {
	if i%2 == 1 {
		return -(i / 2)
	}
	return i / 2
}

// P10.1: numbers of any size.
func TestGreatTimes(t *testing.T) {
	n := make(api.Nat, 256)
	for i := range n {
		n[i] = math.MaxUint32 - uint32(i)
	}
	_, small, _ := nat.Div(n, curve.N())
	p := curve.Times(api.Nat{9}, curve.G())
	if !curve.Same(curve.Times(n, p), curve.Times(small, p)) {
		t.Error("a great number")
	}
}

// P10.1
func TestSame(t *testing.T) {
	g := curve.G()
	if !curve.Same(g, curve.G()) || curve.Same(g, minus(g)) || curve.Same(g, inf) || !curve.Same(inf, api.Point{Inf: true, X: api.Nat{}}) {
		t.Error("Same")
	}
}

// P10.2
func TestMemory(t *testing.T) {
	g, kept := curve.G(), curve.G()
	for _, p := range []api.Point{curve.Add(g, inf), curve.Add(inf, g), curve.Times(api.Nat{1}, g)} {
		p.X[0], p.Y[0] = 1, 1
	}
	if !curve.Same(g, kept) {
		t.Error("memory is shared")
	}
	bad := api.Point{X: make(api.Nat, 3), Y: api.Nat{math.MaxUint32}}
	curve.Add(bad, g)
	curve.Add(g, bad)
	curve.Times(api.Nat{5}, bad)
	curve.Times(make(api.Nat, 5), g)
}

func BenchmarkTimes(b *testing.B) {
	n, _ := nat.Sub(curve.N(), api.Nat{12345})
	for range b.N {
		curve.Times(n, curve.G())
	}
}
