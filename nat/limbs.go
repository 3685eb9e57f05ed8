package nat

import (
	"math/bits"

	"ostiary/api"
)

// limbs are a number by base 2^32, the lowest first, without noughts at the end: products of two fit into 64 bits.
type limbs []uint32

func readTwo(a, b string) (x, y limbs, err error) {
	if x, err = read(a); err != nil {
		return nil, nil, err
	}
	if y, err = read(b); err != nil {
		return nil, nil, err
	}
	return x, y, nil
}

func read(a string) (limbs, error) {
	// The noughts ahead count here.
	if len(a) > api.MaxNat {
		return nil, errLong
	}
	x := make(limbs, (len(a)+3)/4)
	for i := range len(a) {
		x[i/4] |= uint32(a[len(a)-1-i]) << (8 * (i % 4))
	}
	return trimmed(x), nil
}

// form is the number as bytes.
func (x limbs) form() string {
	n := (x.bits() + 7) / 8
	b := make([]byte, n)
	for i := range n {
		b[n-1-i] = byte(x[i/4] >> (8 * (i % 4)))
	}
	return string(b)
}

// bits is how many binary digits it has.
func (x limbs) bits() int {
	if len(x) == 0 {
		return 0
	}
	return 32*(len(x)-1) + bits.Len32(x[len(x)-1])
}

// bit is a binary digit, the lowest one at 0.
func (x limbs) bit(at int) uint32 { return x[at/32] >> (at % 32) & 1 }

func trimmed(x limbs) limbs {
	for len(x) > 0 && x[len(x)-1] == 0 {
		x = x[:len(x)-1]
	}
	return x
}

// below: is it a smaller number than y?
func (x limbs) below(y limbs) bool {
	if len(x) != len(y) {
		return len(x) < len(y)
	}
	for i := range len(x) {
		if at := len(x) - 1 - i; x[at] != y[at] {
			return x[at] < y[at]
		}
	}
	return false
}

// widened is a copy that has noughts at its end, so that it has n limbs.
func widened(x limbs, n int) limbs {
	wide := make(limbs, n)
	copy(wide, x)
	return wide
}

// moveUp makes x what x times 2^by is; by is below 32, and the last limb has room.
func (x limbs) moveUp(by int) {
	var low uint32
	for i := range len(x) {
		high := x[i] >> (32 - by)
		x[i] = x[i]<<by | low
		low = high
	}
}

// moveDown makes x what x divided by 2^by is; by is below 32.
func (x limbs) moveDown(by int) {
	var high uint32
	for i := range len(x) {
		at := len(x) - 1 - i
		low := x[at] << (32 - by)
		x[at] = x[at]>>by | high
		high = low
	}
}
