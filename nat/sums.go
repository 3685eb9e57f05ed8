package nat

func sum(x, y limbs) limbs {
	n := max(len(x), len(y)) + 1
	z := widened(x, n)
	z.addTimes(widened(y, n), 1)
	return trimmed(z)
}

func difference(x, y limbs) (limbs, error) {
	if x.below(y) {
		return nil, errBelow
	}
	return without(x, y), nil
}

// without is the difference, where x is not below y.
func without(x, y limbs) limbs {
	z := widened(x, len(x))
	z.takeTimes(widened(y, len(x)), 1)
	return trimmed(z)
}

func product(x, y limbs) limbs {
	z := make(limbs, len(x)+len(y))
	for i := range len(x) {
		z[i+len(y)] = z[i:i+len(y)].addTimes(y, x[i])
	}
	return trimmed(z)
}

// addTimes makes x, which has as many limbs as y, what x and y times so many are. What does not fit is answered.
func (x limbs) addTimes(y limbs, times uint32) uint32 {
	var carry uint64
	for i := range len(y) {
		t := uint64(y[i])*uint64(times) + uint64(x[i]) + carry
		x[i] = uint32(t)
		carry = t >> 32
	}
	return uint32(carry)
}

// takeTimes makes x, which has as many limbs as y, what x without y times so many is. What is missing is answered.
func (x limbs) takeTimes(y limbs, times uint32) uint32 {
	var borrow uint64
	for i := range len(y) {
		t := uint64(y[i])*uint64(times) + borrow
		borrow = t >> 32
		if x[i] < uint32(t) {
			borrow++
		}
		x[i] -= uint32(t)
	}
	return uint32(borrow)
}
