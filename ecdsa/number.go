package ecdsa

import "math/bits"

// size is how many bytes the numbers have that go out, and the most that one may have that comes in.
const size = 32

// number is one of up to size bytes as words of 64 binary digits, the lowest first.
type number [4]uint64

// read takes up to size bytes, the highest first.
func read(s string) number {
	var a number
	for i := range len(s) {
		a[i/8] |= uint64(s[len(s)-1-i]) << (8 * (i % 8))
	}
	return a
}

// form is the number as bytes, size of them.
func (a number) form() string {
	b := make([]byte, size)
	for i := range size {
		b[size-1-i] = byte(a[i/8] >> (8 * (i % 8)))
	}
	return string(b)
}

// digit is a binary digit, the lowest at 0.
func (a number) digit(at int) uint64 { return a[at/64] >> (at % 64) & 1 }

func (a number) below(b number) bool {
	_, missing := a.less(b)
	return missing == 1
}

// plus is the sum, and what is over behind its words.
func (a number) plus(b number) (sum number, over uint64) {
	for i := range len(a) {
		sum[i], over = bits.Add64(a[i], b[i], over)
	}
	return sum, over
}

// less is what is left when b is taken away, and what was missing for that behind the words.
func (a number) less(b number) (left number, missing uint64) {
	for i := range len(a) {
		left[i], missing = bits.Sub64(a[i], b[i], missing)
	}
	return left, missing
}

// long is a sum under way, the lowest word first.
type long [6]uint64

// addTimes adds so many times a.
func (s *long) addTimes(a number, times uint64) {
	var over uint64
	for i := range len(a) {
		over, s[i] = wordTimes(a[i], times, s[i], over)
	}
	s[4], over = bits.Add64(s[4], over, 0)
	s[5] += over
}

// wordTimes is a times b and the two others, which is below 2^128 at all words.
func wordTimes(a, b, one, other uint64) (high, low uint64) {
	high, low = bits.Mul64(a, b)
	low, carry := bits.Add64(low, one, 0)
	high += carry
	low, carry = bits.Add64(low, other, 0)
	return high + carry, low
}
