package ecdsa

import (
	"ostiary/hash"
	"ostiary/nat"
)

// order is N.
const order = "\xff\xff\xff\xff\x00\x00\x00\x00\xff\xff\xff\xff\xff\xff\xff\xff\xbc\xe6\xfa\xad\xa7\x17\x9e\x84\xf3\xb9\xca\xc2\xfc\x63\x25\x51"

// verified: are r and t a signature of s? The key p is not far out.
func verified(p point, s, r, t string) bool {
	if !fromOne(r) || !fromOne(t) {
		return false
	}
	// N is a prime, so that t has an inverse.
	by, _ := nat.Inv(t, order)
	sum := both(product(hash.Sum256(s), by), basePoint(), product(r, by), p)
	return !sum.far() && leftOf(sum.key().X) == nat.Trim(r)
}

// fromOne: is a from 1 to N - 1?
func fromOne(a string) bool { return nat.Bits(a) > 0 && nat.Cmp(a, order) < 0 }

// product is a times b modulo N.
func product(a, b string) number {
	all, _ := nat.Mul(a, b)
	return read(leftOf(all))
}

// leftOf is what a leaves, divided by N.
func leftOf(a string) string {
	_, left, _ := nat.Div(a, order)
	return left
}
