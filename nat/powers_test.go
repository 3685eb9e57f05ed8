package nat_test

// P3.3: powers, inverses, and Montgomery's product.

import (
	"math/big"
	"strings"
	"testing"

	"ostiary/api"
	"ostiary/nat"
)

func wantPow(t *testing.T, a, e, m string) {
	t.Helper()
	s, errno := nat.Pow(a, e, m)
	if number(m).Sign() == 0 {
		wantRefused(t, "Pow", s, errno, api.ErrNatZero)
	} else if x := formOf(new(big.Int).Exp(number(a), number(e), number(m))); s != x || errno != api.OK {
		t.Errorf("Pow(%x, %x, %x): %x, %d, not %x", a, e, m, s, errno, x)
	}
}

func wantInv(t *testing.T, a, m string) {
	t.Helper()
	s, e := nat.Inv(a, m)
	if number(m).Sign() == 0 {
		wantRefused(t, "Inv", s, e, api.ErrNatZero)
	} else if x := new(big.Int).ModInverse(number(a), number(m)); x == nil {
		wantRefused(t, "Inv", s, e, api.ErrNatNone)
	} else if s != formOf(x) || e != api.OK {
		t.Errorf("Inv(%x, %x): %x, %d, not %x", a, m, s, e, formOf(x))
	}
}

// montgomery is the product by another way: by the inverse of 256 to the power of m's bytes.
func montgomery(a, b, m string) string {
	n := number(m)
	r := new(big.Int).Lsh(big.NewInt(1), uint(8*len(formOf(n))))
	x := new(big.Int).Mul(number(a), number(b))
	x.Mul(x, new(big.Int).ModInverse(r, n))
	return formOf(x.Mod(x, n))
}

func wantMont(t *testing.T, a, b, m string) {
	t.Helper()
	s, e := nat.Mont(a, b, m)
	if number(m).Sign() == 0 {
		wantRefused(t, "Mont", s, e, api.ErrNatZero)
	} else if number(m).Bit(0) == 0 {
		wantRefused(t, "Mont", s, e, api.ErrNatEven)
	} else if x := montgomery(a, b, m); s != x || e != api.OK {
		t.Errorf("Mont(%x, %x, %x): %x, %d, not %x", a, b, m, s, e, x)
	}
}

func TestPowerExamples(t *testing.T) {
	for _, x := range []struct{ a, e, m, wanted string }{
		{"\x03", "\x05", "\x07", "\x05"},
		{"", "", "\x01", ""},
		{"", "", "\x02", "\x01"},
		{"\x02", "\x0a", "\x03\xe8", "\x18"},
	} {
		s, e := nat.Pow(x.a, x.e, x.m)
		wantAnswer(t, "Pow", s, e, x.wanted)
	}
	s, e := nat.Inv("\x03", "\x07")
	wantAnswer(t, "Inv", s, e, "\x05")
	s, e = nat.Inv("\x02", "\x04")
	wantRefused(t, "Inv", s, e, api.ErrNatNone)
	s, e = nat.Inv("\x05", "\x01")
	wantAnswer(t, "Inv", s, e, "")
	s, e = nat.Inv("\x01", "")
	wantRefused(t, "Inv", s, e, api.ErrNatZero)
	s, e = nat.Mont("\x01", "\x01", "\x07")
	wantAnswer(t, "Mont", s, e, "\x02")
	s, e = nat.Mont("\x05", "\x03", "\x08")
	wantRefused(t, "Mont", s, e, api.ErrNatEven)
}

func small(n int) string { return formOf(big.NewInt(int64(n))) }

// All small numbers.
func TestPowersOfSmallNumbers(t *testing.T) {
	for m := range 40 {
		for a := range 45 {
			for e := range 45 {
				wantPow(t, small(a), small(e), small(m))
				wantMont(t, small(a), small(e), small(m))
			}
		}
	}
	for m := range 300 {
		for a := range 310 {
			wantInv(t, small(a), small(m))
		}
	}
}

func TestPowersOfSome(t *testing.T) {
	for i, m := range some() {
		for k, a := range some() {
			wantInv(t, a, m)
			wantMont(t, a, noise(i, k%20), m)
			wantMont(t, noise(k, i%20), a, m)
			wantPow(t, a, noise(i+k, (i+k)%6), m)
			wantPow(t, noise(i, 9), a, m)
		}
	}
}

// Moduli of all lengths, odd and even, and numbers beyond them.
func TestPowersOfAllLengths(t *testing.T) {
	for n := 1; n <= 512; n++ {
		m := noise(n, n)
		odd := m[:n-1] + string([]byte{m[n-1] | 1})
		for _, m := range []string{m, odd} {
			wantPow(t, noise(n+1, 512), "\x01\x00\x01", m)
			wantInv(t, noise(n+2, n), m)
			wantMont(t, noise(n+3, 512), noise(n+4, n), m)
			wantMont(t, noise(n+5, n), noise(n+6, 512), strings.Repeat(nought, 512-n)+m)
		}
	}
}

func TestPowersOfLongestNumbers(t *testing.T) {
	most := strings.Repeat(full, 512)
	a, e, m := noise(1, 512), noise(2, 512), noise(3, 511)
	wantPow(t, a, e, m+"\x01")
	wantPow(t, a, e, m+"\x00")
	wantPow(t, most[:511]+"\xfe", most, most)
	wantPow(t, a, most, "\x01"+strings.Repeat(nought, 511))
	wantPow(t, most, "", most)
	wantPow(t, most, strings.Repeat(nought, 512), "\x01")
	wantInv(t, a, m+"\x01")
	wantInv(t, most[1:], most)
	wantInv(t, "\x02", most)
	wantMont(t, most, most, most)
	wantMont(t, most, most, most[:511]+"\xfd")
	wantMont(t, a, e, "\x80"+strings.Repeat(nought, 510)+"\x01")
}

// A modulus of 0 is told ahead of what else is wrong.
func TestZeroModulus(t *testing.T) {
	for _, m := range []string{"", nought, strings.Repeat(nought, 512)} {
		for _, a := range []string{"", "\x01", noise(1, 512)} {
			s, e := nat.Pow(a, a, m)
			wantRefused(t, "Pow", s, e, api.ErrNatZero)
			s, e = nat.Inv(a, m)
			wantRefused(t, "Inv", s, e, api.ErrNatZero)
			s, e = nat.Mont(a, a, m)
			wantRefused(t, "Mont", s, e, api.ErrNatZero)
		}
	}
}

// Noughts ahead change nothing.
func TestPowersWithNoughtsAhead(t *testing.T) {
	for n := range 20 {
		ahead := strings.Repeat(nought, n)
		for _, m := range []string{"\x05", "\x01\x01", "\x07\x05\x03\x01\x0b", noise(7, 30) + "\x01", noise(7, 30) + "\x06"} {
			a, b := ahead+noise(n, 7), ahead+noise(50+n, 9)
			wantPow(t, a, b, ahead+m)
			wantInv(t, a, ahead+m)
			wantMont(t, a, b, ahead+m)
		}
	}
}
