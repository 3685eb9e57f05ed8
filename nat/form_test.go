package nat_test

// P3.1, and what the other tests lean on.

import (
	"math/big"
	"strings"
	"testing"

	"ostiary/api"
	"ostiary/nat"
)

const (
	nought = "\x00"
	full   = "\xff"
)

// noise is the same bytes on every run for each seed, of all values, without a rule that the program could share.
func noise(seed, n int) string {
	b := make([]byte, n)
	x := uint32(2463534242) + uint32(seed)*2654435761
	if x == 0 {
		x = 1
	}
	for i := range 16 + n {
		x ^= x << 13
		x ^= x >> 17
		x ^= x << 5
		if i >= 16 {
			b[i-16] = byte(x >> 11)
		}
	}
	return string(b)
}

func number(s string) *big.Int { return new(big.Int).SetBytes([]byte(s)) }

// formOf is a number's form by another program.
func formOf(x *big.Int) string { return string(x.Bytes()) }

// some are numbers of all lengths about the limbs' ends, of the bytes by which carries come far, and of noise.
func some() []string {
	all := []string{"", nought, "\x00\x00\x00\x00\x00", "\x01", "\x02", "\x03", "\x07", "\x80", "\x00\xff", "\x00\x00\x00\x00\x01\x00"}
	for n := 1; n <= 17; n++ {
		all = append(all,
			strings.Repeat(full, n),
			"\x01"+strings.Repeat(nought, n),
			"\x80"+strings.Repeat(nought, n-1),
			"\x7f"+strings.Repeat(full, n-1),
			"\x80"+strings.Repeat(nought, n-1)+"\x01",
			noise(n, n),
			noise(100+n, n)+strings.Repeat(nought, n),
			strings.Repeat(nought, n)+noise(200+n, 3))
	}
	return all
}

func want(t *testing.T, what, got, wanted string) {
	t.Helper()
	if got != wanted {
		t.Errorf("%s: %x, not %x", what, got, wanted)
	}
}

func wantAnswer(t *testing.T, what, got string, e api.Errno, wanted string) {
	t.Helper()
	if got != wanted || e != api.OK {
		t.Errorf("%s: %x, %d, not %x", what, got, e, wanted)
	}
}

func wantRefused(t *testing.T, what, got string, e, wanted api.Errno) {
	t.Helper()
	if got != "" || e != wanted {
		t.Errorf("%s: %x, %d, not %d", what, got, e, wanted)
	}
}

func TestFormExamples(t *testing.T) {
	want(t, "Trim", nat.Trim("\x00\x00\x01\x00"), "\x01\x00")
	if n := nat.Bits("\x00\x01\x00"); n != 9 {
		t.Errorf("Bits: %d", n)
	}
	if n := nat.Cmp("\x00\x01", "\x01"); n != 0 {
		t.Errorf("Cmp: %d", n)
	}
	s, e := nat.Pad("\x01", 3)
	wantAnswer(t, "Pad", s, e, "\x00\x00\x01")
	s, e = nat.Pad("\x01\x00", 1)
	wantRefused(t, "Pad", s, e, api.ErrNatWide)
}

// long are numbers of more bytes than the sums take, and about as many.
func long() []string {
	return []string{
		noise(1, 511), noise(2, 512), noise(3, 513), noise(4, 5000),
		strings.Repeat(nought, 513), strings.Repeat(nought, 5000) + "\x01", "\x01" + strings.Repeat(nought, 5000),
		strings.Repeat(full, 1<<20), strings.Repeat(nought, 600) + noise(5, 512), strings.Repeat(nought, 600) + noise(6, 513),
	}
}

func TestTrimAndBits(t *testing.T) {
	for _, s := range append(some(), long()...) {
		x := number(s)
		want(t, "Trim", nat.Trim(s), formOf(x))
		if n := nat.Bits(s); n != x.BitLen() {
			t.Errorf("Bits of %d bytes: %d, not %d", len(s), n, x.BitLen())
		}
	}
	for c := range 256 {
		b := string([]byte{byte(c)})
		for _, rest := range []string{"", "\x00", "0", " \n", "\xff\x00"} {
			s := nought + b + rest
			want(t, "Trim", nat.Trim(s), formOf(number(s)))
			if n := nat.Bits(s); n != number(s).BitLen() {
				t.Errorf("Bits(%x): %d", s, n)
			}
		}
	}
}

func TestCmpOfEachTwo(t *testing.T) {
	all := append(some(), long()...)
	for _, a := range all {
		for _, b := range all {
			if n := nat.Cmp(a, b); n != number(a).Cmp(number(b)) {
				t.Errorf("Cmp of %d and %d bytes: %d", len(a), len(b), n)
			}
		}
	}
}

// Two numbers that differ in one byte, wherever it is.
func TestCmpAtEachPlace(t *testing.T) {
	for n := range 40 {
		for at := range n {
			a := []byte("\x01" + noise(n, n))
			b := []byte(string(a))
			b[1+at] ^= 129
			// What comes behind must not count.
			for i := at + 1; i < n; i++ {
				a[1+i], b[1+i] = b[1+i]^a[1+at], a[1+i]
			}
			x := nat.Cmp(string(a), nought+string(b))
			if x != number(string(a)).Cmp(number(string(b))) || nat.Cmp(string(b), string(a)) != -x {
				t.Errorf("%x and %x: %d", a, b, x)
			}
		}
	}
}

func TestPad(t *testing.T) {
	for _, s := range append(some(), long()...) {
		form := formOf(number(s))
		for _, n := range []int{-1 << 63, -513, -1, 0, 1, 2, 3, 4, 5, 8, 9, 17, 32, 33, 34, 511, 512, 513, 514, 1 << 20, 1<<63 - 1} {
			p, e := nat.Pad(s, n)
			if n < 0 || n > 512 || len(form) > n {
				wantRefused(t, "Pad", p, e, api.ErrNatWide)
			} else {
				wantAnswer(t, "Pad", p, e, strings.Repeat(nought, n-len(form))+form)
			}
		}
	}
}
