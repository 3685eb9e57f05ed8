package text

import (
	"unicode/utf8"

	"ostiary/api"
)

const (
	firstHigh = 0xD800  // of the surrogates that come first of two
	firstLow  = 0xDC00  // of those that come second
	lastLow   = 0xDFFF  // to here
	lowCount  = 0x400   // so many come second
	firstPair = 0x10000 // the first rune of two units
)

// Utf8: is it UTF-8?
func Utf8(s string) bool { return utf8.ValidString(s) }

// Units: those of 16 bits.
func Units(s string) ([]int, api.Errno) {
	l, err := writeUnits(s)
	return l, told(err)
}

func writeUnits(s string) ([]int, error) {
	var l []int
	for i := 0; i < len(s); {
		r, size := utf8.DecodeRuneInString(s[i:])
		// The rune FFFD itself has three bytes; told with one it means that there is none.
		if r == utf8.RuneError && size == 1 {
			return nil, placed{i, fault{api.ErrTextUtf}}
		}
		l = writeRune(l, int(r))
		i += size
	}
	return l, nil
}

func writeRune(l []int, r int) []int {
	if r < firstPair {
		return append(l, r)
	}
	m := r - firstPair
	return append(l, firstHigh+m/lowCount, firstLow+m%lowCount)
}

// FromUnits: the UTF-8 of units.
func FromUnits(l []int) (string, api.Errno) {
	b, err := readUnits(l)
	return string(b), told(err)
}

func readUnits(l []int) ([]byte, error) {
	var b []byte
	for i := 0; i < len(l); {
		r, n, err := readRune(l[i:])
		if err != nil {
			return nil, placed{i, err}
		}
		b = utf8.AppendRune(b, rune(r))
		i += n
	}
	return b, nil
}

// readRune reads the rune at the beginning of units, and tells how many of them it has.
func readRune(l []int) (r, n int, err error) {
	switch u := l[0]; {
	case u < 0 || u >= firstPair:
		return 0, 0, fault{api.ErrTextUnit}
	case u < firstHigh || u > lastLow:
		return u, 1, nil
	case u >= firstLow || len(l) == 1 || !isLow(l[1]):
		return 0, 0, fault{api.ErrTextPair}
	default:
		return firstPair + (u-firstHigh)*lowCount + l[1] - firstLow, 2, nil
	}
}

func isLow(u int) bool { return firstLow <= u && u <= lastLow }
