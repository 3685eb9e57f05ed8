package nat

import "math/bits"

func divide(x, y limbs) (quotient, rest limbs, err error) {
	if len(y) == 0 {
		return nil, nil, errZero
	}
	quotient, rest = split(x, y)
	return quotient, rest, nil
}

// leftOf is what is left of x, divided by m, which is above 0.
func leftOf(x, m limbs) limbs {
	_, rest := split(x, m)
	return rest
}

// split divides x by y, which is above 0.
func split(x, y limbs) (quotient, rest limbs) {
	if x.below(y) {
		return nil, widened(x, len(x))
	}
	// Both are moved up till the divisor's highest digit is 1: from then on a guess is hardly ever wrong.
	by := bits.LeadingZeros32(y[len(y)-1])
	divisor := widened(y, len(y))
	divisor.moveUp(by)
	rest = widened(x, len(x)+1)
	rest.moveUp(by)
	quotient = make(limbs, len(x)-len(y)+1)
	for i := range len(quotient) {
		at := len(quotient) - 1 - i
		quotient[at] = digit(rest[at:at+len(y)+1], divisor)
	}
	rest.moveDown(by)
	return trimmed(quotient), trimmed(rest)
}

// digit is how often the divisor is in rest, which has one limb more and is less than 2^32 times the divisor; rest becomes what is left.
func digit(rest, divisor limbs) uint32 {
	n := len(divisor)
	times := guess(rest, divisor)
	missing := rest[:n].takeTimes(divisor, times)
	if rest[n] < missing {
		times--
		rest[n] += rest[:n].addTimes(divisor, 1)
	}
	rest[n] -= missing
	return times
}

// guess is that digit by the highest three limbs of rest and two of the divisor: it is right, or too great by one.
func guess(rest, divisor limbs) uint32 {
	n := len(divisor)
	first := uint64(divisor[n-1])
	high := uint64(rest[n])<<32 | uint64(rest[n-1])
	times, left := high/first, high%first
	var second, third uint64
	if n > 1 {
		second, third = uint64(divisor[n-2]), uint64(rest[n-2])
	}
	for times>>32 != 0 || left>>32 == 0 && times*second > left<<32|third {
		times--
		left += first
	}
	return uint32(times)
}
