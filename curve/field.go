package curve

import (
	"math/bits"

	"apostille/api"
	"apostille/mod"
)

// num is a number modulo P, the lowest digit of 2^64 first, and 2^256 times
// over (Montgomery's way): a product of two goes round without a division.
type num [4]uint64

var (
	prime = num{0xffffffffffffffff, 0x00000000ffffffff, 0, 0xffffffff00000001}
	// square is 2^512, what makes a number a num.
	square = num{3, 0xfffffffbffffffff, 0xfffffffffffffffe, 0x00000004fffffffd}
	// unit is 1.
	unit = num{1, 0xffffffff00000000, 0xffffffffffffffff, 0x00000000fffffffe}
)

// enter makes a number below P a num.
func enter(a api.Nat) num {
	var x num
	for i, d := range a {
		x[i/2] |= uint64(d) << (i % 2 * 32)
	}
	return mul(x, square)
}

// leave is a num's number.
func leave(x num) api.Nat {
	x = mul(x, num{1})
	a := make(api.Nat, 0, 8)
	for _, d := range x {
		a = append(a, uint32(d), uint32(d>>32))
	}
	for len(a) > 0 && a[len(a)-1] == 0 {
		a = a[:len(a)-1]
	}
	return a
}

// add is a sum.
func add(a, b num) num {
	var sum num
	var over uint64
	for i := range a {
		sum[i], over = bits.Add64(a[i], b[i], over)
	}
	return once(sum, over)
}

// sub is a difference.
func sub(a, b num) num {
	var d num
	var lent uint64
	for i := range a {
		d[i], lent = bits.Sub64(a[i], b[i], lent)
	}
	if lent == 0 {
		return d
	}
	var over uint64
	for i := range d {
		d[i], over = bits.Add64(d[i], prime[i], over)
	}
	return d
}

// mul is a product.
func mul(a, b num) num {
	var t [6]uint64
	for i := range a {
		over := uint64(0)
		for j := range b {
			over, t[j] = product(a[i], b[j], t[j], over)
		}
		t[4], t[5] = bits.Add64(t[4], over, 0)
		// P's last digit is 2^64 less 1: so many P more, and the last digit is 0.
		many := t[0]
		over, _ = product(many, prime[0], t[0], 0)
		for j := 1; j < 4; j++ {
			over, t[j-1] = product(many, prime[j], t[j], over)
		}
		t[3], over = bits.Add64(t[4], over, 0)
		t[4] = t[5] + over
	}
	return once(num{t[0], t[1], t[2], t[3]}, t[4])
}

// product is a times b, and c and d, in two digits.
func product(a, b, c, d uint64) (high, low uint64) {
	high, low = bits.Mul64(a, b)
	low, over := bits.Add64(low, c, 0)
	high += over
	low, over = bits.Add64(low, d, 0)
	return high + over, low
}

// once takes P away, if a number (with a fifth digit) is not below it.
func once(x num, fifth uint64) num {
	var d num
	var lent uint64
	for i := range x {
		d[i], lent = bits.Sub64(x[i], prime[i], lent)
	}
	if fifth < lent {
		return x
	}
	return d
}

// inverse is a num's inverse; 0 of 0.
func inverse(x num) num {
	a, _ := mod.Inv(leave(x), P())
	return enter(a)
}
