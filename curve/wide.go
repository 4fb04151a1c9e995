package curve

import (
	"apostille/api"
)

// wide is a point whose X is x by z times z, and whose Y is y by z times z
// times z: sums of such need no inverse. Inf is where z is 0.
type wide struct {
	x, y, z num
}

// wideOf is a point, wide.
func wideOf(p api.Point) wide {
	if p.Inf {
		return wide{}
	}
	return wide{x: enter(p.X), y: enter(p.Y), z: unit}
}

// flat is a wide one's point.
func flat(w wide) api.Point {
	if w.z == (num{}) {
		return api.Point{Inf: true}
	}
	i := inverse(w.z)
	ii := mul(i, i)
	return api.Point{X: leave(mul(w.x, ii)), Y: leave(mul(w.y, mul(ii, i)))}
}

// double is a point, twice.
func double(w wide) wide {
	zz, yy := mul(w.z, w.z), mul(w.y, w.y)
	xyy := mul(w.x, yy)
	// 3 times (x less zz) times (x and zz): what the slope is by.
	a := mul(sub(w.x, zz), add(w.x, zz))
	a = add(a, add(a, a))
	four := twice(twice(xyy))
	yz := add(w.y, w.z)
	x := sub(mul(a, a), twice(four))
	y := sub(mul(a, sub(four, x)), twice(twice(twice(mul(yy, yy)))))
	return wide{x: x, y: y, z: sub(sub(mul(yz, yz), yy), zz)}
}

// plus is the sum of a point and one that is not wide.
func plus(w wide, p api.Point) wide {
	if p.Inf {
		return w
	}
	if w.z == (num{}) {
		return wideOf(p)
	}
	zz := mul(w.z, w.z)
	h := sub(mul(enter(p.X), zz), w.x)
	r := sub(mul(enter(p.Y), mul(zz, w.z)), w.y)
	if h == (num{}) {
		if r == (num{}) {
			return double(w)
		}
		return wide{}
	}
	hh := mul(h, h)
	hhh, v := mul(hh, h), mul(w.x, hh)
	x := sub(sub(mul(r, r), hhh), twice(v))
	y := sub(mul(r, sub(v, x)), mul(w.y, hhh))
	return wide{x: x, y: y, z: mul(w.z, h)}
}

// twice is a num, twice.
func twice(x num) num {
	return add(x, x)
}
