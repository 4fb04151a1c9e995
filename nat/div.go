package nat

import (
	"math/bits"

	"apostille/api"
)

// Div is a quotient, and what is left.
func Div(a, b api.Nat) (q, r api.Nat, ok bool) {
	a, b = trim(a), trim(b)
	if len(b) == 0 {
		return nil, nil, false
	}
	if len(b) == 1 {
		q, r = short(a, b[0])
		return q, r, true
	}
	// The divisor's first digit is made great, so that a quotient's digit can be guessed of two digits.
	shift := bits.LeadingZeros32(b[len(b)-1])
	left, by := shifted(a, shift), trim(shifted(b, shift))
	q = make(api.Nat, max(len(left)-len(by), 0))
	for i := len(q) - 1; i >= 0; i-- {
		q[i] = step(left[i:i+len(by)+1], by)
	}
	return trim(q), back(left, shift), true
}

// short divides by one digit.
func short(a api.Nat, b uint32) (q, r api.Nat) {
	q = make(api.Nat, len(a))
	left := uint64(0)
	for i := len(a) - 1; i >= 0; i-- {
		left = left<<digit | uint64(a[i])
		q[i] = uint32(left / uint64(b))
		left %= uint64(b)
	}
	return trim(q), trim(api.Nat{uint32(left)})
}

// shifted is a number with so many noughts (of two, fewer than 32) behind it, and one digit more.
func shifted(a api.Nat, shift int) api.Nat {
	s := make(api.Nat, len(a)+1)
	over := uint64(0)
	for i, x := range a {
		over |= uint64(x) << shift
		s[i] = uint32(over)
		over >>= digit
	}
	s[len(a)] = uint32(over)
	return s
}

// back is what shifted was made of; it is written over.
func back(a api.Nat, shift int) api.Nat {
	over := uint64(0)
	for i := len(a) - 1; i >= 0; i-- {
		over |= uint64(a[i])
		x := over >> shift
		over = over << digit
		a[i] = uint32(x)
	}
	return trim(a)
}

// step is one digit of a quotient; what is left stands in left, which has one digit more than by.
func step(left, by api.Nat) uint32 {
	n := len(by)
	two := uint64(left[n])<<digit | uint64(left[n-1])
	guess := two / uint64(by[n-1])
	rest := two % uint64(by[n-1])
	for guess>>digit != 0 || guess*uint64(by[n-2]) > rest<<digit|uint64(left[n-2]) {
		guess--
		rest += uint64(by[n-1])
		if rest>>digit != 0 {
			break
		}
	}
	if subtract(left, by, guess) == 0 {
		return uint32(guess)
	}
	// The guess was one too great: by is given back.
	over := uint64(0)
	for i := range by {
		over += uint64(left[i]) + uint64(by[i])
		left[i] = uint32(over)
		over >>= digit
	}
	left[n] += uint32(over)
	return uint32(guess - 1)
}
