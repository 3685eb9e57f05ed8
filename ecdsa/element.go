package ecdsa

import "ostiary/nat"

// element is a number modulo P in Montgomery's form, that is 2^256 times it: products of such need no division. It is below P, so each number has one form alone, and equal ones are equal arrays.
type element number

// prime is P.
var prime = number{0xffffffffffffffff, 0x00000000ffffffff, 0, 0xffffffff00000001}

// square is 2^512 modulo P: a number times it is that number's element.
var square = element{3, 0xfffffffbffffffff, 0xfffffffffffffffe, 0x00000004fffffffd}

// elementOf is that of a number below P.
func elementOf(a number) element { return element(a).times(square) }

func (a element) number() number { return number(a.times(element{1})) }

func (a element) plus(b element) element {
	sum, over := number(a).plus(number(b))
	return reduced(sum, over)
}

func (a element) minus(b element) element {
	left, missing := number(a).less(number(b))
	if missing == 1 {
		left, _ = left.plus(prime)
	}
	return element(left)
}

func (a element) doubled() element { return a.plus(a) }

func (a element) squared() element { return a.times(a) }

// times is Montgomery's product. P's lowest word is 2^64 - 1, so a sum's own lowest word says how many times P makes that word 0.
func (a element) times(b element) element {
	var sum long
	for i := range len(b) {
		sum.addTimes(number(a), b[i])
		sum.addTimes(prime, sum[0])
		// The lowest word is 0 now; behind it the sum is below 2 P.
		copy(sum[:], sum[1:])
		sum[5] = 0
	}
	return reduced(number(sum[:4]), sum[4])
}

// reduced takes P away once, if it can: a and what is over are below 2 P.
func reduced(a number, over uint64) element {
	left, missing := a.less(prime)
	if over < missing {
		return element(a)
	}
	return element(left)
}

// inverse is that of an element that is not 0: P is a prime, so there is one.
func (a element) inverse() element {
	inverse, _ := nat.Inv(a.number().form(), prime.form())
	return elementOf(read(inverse))
}
