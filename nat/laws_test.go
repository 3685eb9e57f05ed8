package nat_test

// P3.4: what follows, by the exported functions alone.

import (
	"strings"
	"testing"

	"ostiary/api"
	"ostiary/nat"
)

func answered(t *testing.T, s string, e api.Errno) string {
	t.Helper()
	if e != api.OK {
		t.Fatalf("refused: %d", e)
	}
	return s
}

type laws struct{ t *testing.T }

func (l laws) add(a, b string) string { s, e := nat.Add(a, b); return answered(l.t, s, e) }
func (l laws) sub(a, b string) string { s, e := nat.Sub(a, b); return answered(l.t, s, e) }
func (l laws) mul(a, b string) string { s, e := nat.Mul(a, b); return answered(l.t, s, e) }
func (l laws) pow(a, b, m string) string {
	s, e := nat.Pow(a, b, m)
	return answered(l.t, s, e)
}
func (l laws) mont(a, b, m string) string {
	s, e := nat.Mont(a, b, m)
	return answered(l.t, s, e)
}
func (l laws) left(a, m string) string {
	_, r, e := nat.Div(a, m)
	return answered(l.t, r, e)
}

// three calls with triples of numbers of all lengths up to most bytes.
func three(most int, with func(a, b, c string)) {
	for i := range most + 1 {
		with(noise(i, i), noise(i+1, most-i), noise(i+2, (i*7)%(most+1)))
	}
	with(strings.Repeat(full, most), "\x01", strings.Repeat(full, most))
	with("\x01"+strings.Repeat(nought, most-1), strings.Repeat(full, most-1), "")
	with("", "", "\x01")
}

func TestSumsAndProductsGoTogether(t *testing.T) {
	l := laws{t}
	three(170, func(a, b, c string) {
		want(t, "a+b, b+a", l.add(a, b), l.add(b, a))
		want(t, "ab, ba", l.mul(a, b), l.mul(b, a))
		want(t, "(a+b)+c, a+(b+c)", l.add(l.add(a, b), c), l.add(a, l.add(b, c)))
		want(t, "(ab)c, a(bc)", l.mul(l.mul(a, b), c), l.mul(a, l.mul(b, c)))
		want(t, "a(b+c), ab+ac", l.mul(a, l.add(b, c)), l.add(l.mul(a, b), l.mul(a, c)))
		want(t, "(a+b)-b", l.sub(l.add(a, b), b), nat.Trim(a))
		want(t, "(a+b)-a", l.sub(l.add(a, b), a), nat.Trim(b))
	})
}

func TestQuotientsTakeProductsBack(t *testing.T) {
	l := laws{t}
	three(510, func(a, b, c string) {
		for _, d := range []string{b, c} {
			if nat.Bits(d) == 0 {
				continue
			}
			q, r, e := nat.Div(a, d)
			if e != api.OK || nat.Cmp(r, d) != -1 || len(q) > len(a) {
				t.Errorf("%x by %x: %x, %x, %d", a, d, q, r, e)
			}
			want(t, "the divisor times the quotient, and what is left", l.add(l.mul(q, d), r), nat.Trim(a))
		}
	})
}

func TestPowersOfSums(t *testing.T) {
	l := laws{t}
	three(24, func(a, b, c string) {
		for _, m := range []string{"\x01", "\x02", "\x01\x00\x00\x00\x00", noise(9, 30), noise(8, 30) + "\x01", noise(8, 31) + "\x02"} {
			both := l.mul(l.pow(c, a, m), l.pow(c, b, m))
			want(t, "a power by a sum", l.pow(c, l.add(a, b), m), l.left(both, m))
		}
	})
}

// divisor is the greatest number that divides both.
func (l laws) divisor(a, b string) string {
	for nat.Bits(b) > 0 {
		a, b = b, l.left(a, b)
	}
	return nat.Trim(a)
}

func TestInverses(t *testing.T) {
	l := laws{t}
	three(90, func(a, b, c string) {
		for _, m := range []string{b, c, l.mul(a, c), l.mul(b, "\x06")} {
			if nat.Bits(m) == 0 {
				continue
			}
			x, e := nat.Inv(a, m)
			if l.divisor(a, m) != "\x01" {
				wantRefused(t, "Inv", x, e, api.ErrNatNone)
				continue
			}
			if e != api.OK || nat.Cmp(x, m) != -1 {
				t.Errorf("Inv(%x, %x): %x, %d", a, m, x, e)
			}
			want(t, "a number times its inverse", l.left(l.mul(a, x), m), l.left("\x01", m))
		}
	})
}

func TestMontgomeryThereAndBack(t *testing.T) {
	l := laws{t}
	three(120, func(a, b, c string) {
		for _, m := range []string{b + "\x01", c + "\xff", l.mul(c, c) + "\x0d"} {
			r := "\x01" + strings.Repeat(nought, len(nat.Trim(m)))
			square := l.left(l.mul(r, r), m)
			there := l.mont(a, square, m)
			want(t, "a times R", there, l.left(l.mul(a, r), m))
			want(t, "there and back", l.mont(there, "\x01", m), l.left(a, m))
			want(t, "a product", l.mont(there, b, m), l.left(l.mul(a, b), m))
		}
	})
}
