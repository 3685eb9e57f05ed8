package nat_test

// P3.2: sums, differences, products, quotients; and ErrNatLong of all.

import (
	"math/big"
	"strings"
	"testing"

	"ostiary/api"
	"ostiary/nat"
)

func wantAdd(t *testing.T, a, b string) {
	t.Helper()
	s, e := nat.Add(a, b)
	wantAnswer(t, "Add", s, e, formOf(new(big.Int).Add(number(a), number(b))))
}

func wantSub(t *testing.T, a, b string) {
	t.Helper()
	s, e := nat.Sub(a, b)
	d := new(big.Int).Sub(number(a), number(b))
	if d.Sign() < 0 {
		wantRefused(t, "Sub", s, e, api.ErrNatBelow)
	} else {
		wantAnswer(t, "Sub", s, e, formOf(d))
	}
}

func wantMul(t *testing.T, a, b string) {
	t.Helper()
	s, e := nat.Mul(a, b)
	wantAnswer(t, "Mul", s, e, formOf(new(big.Int).Mul(number(a), number(b))))
}

func wantDiv(t *testing.T, a, b string) {
	t.Helper()
	q, r, e := nat.Div(a, b)
	if number(b).Sign() == 0 {
		wantRefused(t, "Div", q+r, e, api.ErrNatZero)
		return
	}
	x, y := new(big.Int).QuoRem(number(a), number(b), new(big.Int))
	if q != formOf(x) || r != formOf(y) || e != api.OK {
		t.Errorf("Div(%x, %x): %x, %x, %d, not %x, %x", a, b, q, r, e, formOf(x), formOf(y))
	}
}

func TestSumExamples(t *testing.T) {
	s, e := nat.Add("\xff", "\x01")
	wantAnswer(t, "Add", s, e, "\x01\x00")
	s, e = nat.Sub("\x01\x00", "\x01")
	wantAnswer(t, "Sub", s, e, "\xff")
	s, e = nat.Sub("\x01", "\x02")
	wantRefused(t, "Sub", s, e, api.ErrNatBelow)
	s, e = nat.Mul("\xff", "\xff")
	wantAnswer(t, "Mul", s, e, "\xfe\x01")
	q, r, e := nat.Div("\x01\x00", "\x07")
	if q != "\x24" || r != "\x04" || e != api.OK {
		t.Errorf("Div: %x, %x, %d", q, r, e)
	}
	q, r, e = nat.Div("\x01", "")
	wantRefused(t, "Div", q+r, e, api.ErrNatZero)
}

func TestSumsOfEachTwo(t *testing.T) {
	for _, a := range some() {
		for _, b := range some() {
			wantAdd(t, a, b)
			wantSub(t, a, b)
			wantMul(t, a, b)
			wantDiv(t, a, b)
		}
	}
}

// Numbers of all lengths, up to the longest ones.
func TestSumsOfAllLengths(t *testing.T) {
	for n := range 513 {
		a, b := noise(n, n), noise(1000+n, 512-n)
		for _, x := range []string{a, nought + a, full + a} {
			if len(x) > 512 {
				continue
			}
			wantAdd(t, x, b)
			wantAdd(t, x, a)
			wantSub(t, x, b)
			wantSub(t, b, x)
			wantSub(t, x, a)
			wantMul(t, x, b)
			wantMul(t, x, x)
			wantDiv(t, x, b)
			wantDiv(t, b, x)
			wantDiv(t, noise(3, 512), x)
		}
	}
	most := strings.Repeat(full, 512)
	wantAdd(t, most, "\x01")
	wantAdd(t, most, most)
	wantMul(t, most, most)
	wantSub(t, most, most)
	wantSub(t, "\x01"+strings.Repeat(nought, 511), "\x01")
	wantDiv(t, most, most)
	wantDiv(t, most, most[1:])
	wantDiv(t, most, "\x01")
	wantDiv(t, most, "\x01"+strings.Repeat(nought, 511))
}

// Quotients of all numbers of limbs by which guesses go wrong.
func TestDivOfEdgyLimbs(t *testing.T) {
	limbs := []string{"\x00\x00\x00\x00", "\x00\x00\x00\x01", "\x7f\xff\xff\xff", "\x80\x00\x00\x00", "\xff\xff\xff\xfe", "\xff\xff\xff\xff"}
	var ofTwo, ofThree []string
	for _, x := range limbs {
		for _, y := range limbs {
			ofTwo = append(ofTwo, x+y)
			for _, z := range limbs {
				ofThree = append(ofThree, x+y+z)
			}
		}
	}
	for _, high := range ofTwo {
		for _, low := range ofTwo {
			for _, b := range ofTwo {
				wantDiv(t, high+low, b)
			}
			for _, b := range ofThree {
				wantDiv(t, high+low, b)
			}
		}
	}
	for _, a := range ofThree {
		for _, x := range limbs {
			wantDiv(t, a, x)
			wantDiv(t, a, x+"\x03")
		}
	}
}

// A product with something added, less than the divisor, wherever the highest digit stands.
func TestDivOfProducts(t *testing.T) {
	for n := 1; n < 90; n++ {
		for digits := range 8 {
			b := []byte(noise(n*8+digits, n))
			b[0] = b[0]>>digits | byte(128>>digits)
			y := number(string(b))
			for _, q := range []string{noise(n, 41), strings.Repeat(full, 40), "\x80" + strings.Repeat(nought, 40)} {
				p := new(big.Int).Mul(y, number(q))
				wantDiv(t, formOf(p), string(b))
				wantDiv(t, formOf(p.Sub(p, big.NewInt(1))), string(b))
				wantDiv(t, formOf(p.Add(p, y)), string(b))
			}
		}
	}
}

// faces are the calls that refuse long numbers, by how many they take.
func faces() map[int][]func(n []string) (string, api.Errno) {
	return map[int][]func(n []string) (string, api.Errno){
		2: {
			func(n []string) (string, api.Errno) { return nat.Add(n[0], n[1]) },
			func(n []string) (string, api.Errno) { return nat.Sub(n[0], n[1]) },
			func(n []string) (string, api.Errno) { return nat.Mul(n[0], n[1]) },
			func(n []string) (string, api.Errno) { q, r, e := nat.Div(n[0], n[1]); return q + r, e },
			func(n []string) (string, api.Errno) { return nat.Inv(n[0], n[1]) },
		},
		3: {
			func(n []string) (string, api.Errno) { return nat.Pow(n[0], n[1], n[2]) },
			func(n []string) (string, api.Errno) { return nat.Mont(n[0], n[1], n[2]) },
		},
	}
}

// A number of more than 512 bytes is refused wherever it stands, whatever its bytes are, and ahead of all else that is wrong; one of 512 bytes is not.
func TestLong(t *testing.T) {
	for many, calls := range faces() {
		for i, call := range calls {
			for at := range many {
				for _, other := range []string{"", "\x01", "\x02", noise(1, 20)} {
					for _, long := range []string{strings.Repeat(nought, 513), strings.Repeat(nought, 512) + "\x01", noise(2, 513), noise(3, 2000)} {
						n := []string{other, other, other}[:many]
						n[at] = long
						s, e := call(n)
						wantRefused(t, "a long number", s, e, api.ErrNatLong)
						n[at] = strings.Repeat(nought, 511) + "\x03"
						s, e = call(n)
						n[at] = "\x03"
						wanted, errno := call(n)
						if s != wanted || e != errno || e == api.ErrNatLong {
							t.Errorf("call %d of %d with 512 bytes at %d: %x, %d, not %x, %d", i, many, at, s, e, wanted, errno)
						}
					}
				}
			}
			all := []string{noise(1, 513), noise(2, 513), noise(3, 513)}[:many]
			s, e := call(all)
			wantRefused(t, "long numbers", s, e, api.ErrNatLong)
		}
	}
}
