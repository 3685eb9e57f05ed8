package nat

func power(a, e, m limbs) (limbs, error) {
	if len(m) == 0 {
		return nil, errZero
	}
	a = leftOf(a, m)
	x := leftOf(limbs{1}, m)
	n := e.bits()
	for i := range n {
		x = times(x, x, m)
		if e.bit(n-1-i) == 1 {
			x = times(x, a, m)
		}
	}
	return x, nil
}

// times is what is left of the product, divided by m, which is above 0.
func times(x, y, m limbs) limbs {
	return leftOf(product(x, y), m)
}

// inverse goes by Euclid: each number under way, to which m and a come down, is a times its factor, but for multiples of m. The factors' signs take turns, so that they are kept without one.
func inverse(a, m limbs) (limbs, error) {
	if len(m) == 0 {
		return nil, errZero
	}
	high, low := m, leftOf(a, m)
	highBy, lowBy := limbs(nil), limbs{1}
	minus := true
	for len(low) > 0 {
		q, rest := split(high, low)
		high, low = low, rest
		highBy, lowBy = lowBy, sum(highBy, product(q, lowBy))
		minus = !minus
	}
	if high.bits() != 1 {
		return nil, errNone
	}
	if minus {
		highBy = without(m, highBy)
	}
	return leftOf(highBy, m), nil
}

// montgomery divides by 256 as often as m has bytes, each time behind adding the multiple of m that makes the lowest byte 0.
func montgomery(a, b, m limbs) (limbs, error) {
	if len(m) == 0 {
		return nil, errZero
	}
	if m.bit(0) == 0 {
		return nil, errEven
	}
	by := -inverseOfByte(byte(m[0]))
	wide := widened(m, len(m)+1)
	x := widened(times(a, b, m), len(m)+1)
	for range (m.bits() + 7) / 8 {
		x.addTimes(wide, uint32(byte(x[0])*by))
		x.moveDown(8)
	}
	return trimmed(x), nil
}

// inverseOfByte is the byte by which an odd one makes 1. Such a byte is its own inverse in its lowest three digits, and each step doubles how many are right.
func inverseOfByte(odd byte) byte {
	x := odd
	for range 2 {
		x *= 2 - odd*x
	}
	return x
}
