package ecdsa_test

// P5.1 and P5.2: the points, sums and multiples.

import (
	"math/big"
	"strings"
	"testing"

	"ostiary/api"
	"ostiary/ecdsa"
)

func TestBaseAndOrder(t *testing.T) {
	for range 2 {
		if g := ecdsa.Base(); g != base().key() {
			t.Errorf("G: %x, %x", g.X, g.Y)
		}
		if n := ecdsa.Order(); n != sized(order()) {
			t.Errorf("N: %x", n)
		}
	}
}

// What these tests call points are such by the library too.
func TestPointsOfTheseTests(t *testing.T) {
	for _, p := range some() {
		if !p.far() && (p.x.Cmp(modulus()) >= 0 || left(times(p.y, p.y), modulus()).Cmp(above(p.x)) != 0) {
			t.Errorf("%x, %x", p.x, p.y)
		}
	}
}

func TestCheck(t *testing.T) {
	for _, p := range some() {
		wanted := api.OK
		if p.far() {
			wanted = api.ErrEcKey
		}
		if e := ecdsa.Check(p.key()); e != wanted {
			t.Errorf("%x: %d", p.key(), e)
		}
	}
	for _, k := range none() {
		if e := ecdsa.Check(k); e != api.ErrEcKey {
			t.Errorf("%x: %d", k, e)
		}
	}
}

func TestCheckOfAllLengths(t *testing.T) {
	g := base().key()
	for n := range 70 {
		for _, k := range []api.EcKey{
			{X: strings.Repeat(nought, n), Y: g.Y},
			{X: g.X, Y: strings.Repeat(nought, n)},
			{X: noise(n, n), Y: noise(n+1, n)},
			{X: (g.X + g.X + g.X)[:n], Y: (g.Y + g.Y + g.Y)[:n]},
		} {
			wanted := api.ErrEcKey
			if k == g {
				wanted = api.OK
			}
			if e := ecdsa.Check(k); e != wanted {
				t.Errorf("%d bytes: %d", n, e)
			}
		}
	}
}

// A point whose X or Y begins with 0 must have that byte.
func TestCheckOfNoughtsAhead(t *testing.T) {
	for _, p := range append(low(), narrow()...) {
		k := p.key()
		for n := 1; k.Y[n-1] == 0; n++ {
			if e := ecdsa.Check(api.EcKey{X: k.X, Y: k.Y[n:]}); e != api.ErrEcKey {
				t.Errorf("%x without %d bytes: %d", k, n, e)
			}
		}
	}
	for x := range int64(300) {
		p, ok := over(small(x))
		if !ok {
			continue
		}
		k := p.key()
		if e := ecdsa.Check(k); e != api.OK {
			t.Errorf("X %d: %d", x, e)
		}
		for n := 1; n <= 32; n++ {
			if e := ecdsa.Check(api.EcKey{X: k.X[n:], Y: k.Y}); e != api.ErrEcKey {
				t.Errorf("X %d without %d bytes: %d", x, n, e)
			}
		}
	}
}

func TestCheckOfEachBit(t *testing.T) {
	for _, p := range some()[1:9] {
		both := p.key().X + p.key().Y
		for at := range 8 * len(both) {
			b := []byte(both)
			b[at/8] ^= 1 << (at % 8)
			k := api.EcKey{X: string(b[:32]), Y: string(b[32:])}
			if e := ecdsa.Check(k); e != api.ErrEcKey {
				t.Errorf("digit %d: %x: %d", at, k, e)
			}
		}
	}
}

func TestAddOfEachTwo(t *testing.T) {
	for _, p := range some() {
		for _, q := range some() {
			sum, e := ecdsa.Add(p.key(), q.key())
			wantPoint(t, "a sum", sum, e, p.plus(q))
		}
	}
}

func TestAddOfNoPoints(t *testing.T) {
	for _, k := range none() {
		for _, q := range []api.EcKey{{}, base().key(), k} {
			sum, e := ecdsa.Add(k, q)
			wantRefused(t, "the first is none", sum, e, api.ErrEcKey)
			sum, e = ecdsa.Add(q, k)
			wantRefused(t, "the second is none", sum, e, api.ErrEcKey)
		}
	}
}

// factors are numbers of all lengths and at the ends, as bytes.
func factors() []string {
	all := []string{"", sized(small(0)), sized(order()), sized(modulus()), strings.Repeat(full, 32), strings.Repeat(nought, 31) + "\x02", "\x80" + strings.Repeat(nought, 31)}
	for n := range int64(20) {
		all = append(all, sized(small(n)), string(small(n).Bytes()), nought+string(small(n).Bytes()))
		all = append(all, sized(minus(order(), small(n))), sized(plus(order(), small(n))))
		half := new(big.Int).Rsh(order(), 1)
		all = append(all, sized(plus(half, small(n-10))))
	}
	for n := range 32 {
		all = append(all, noise(n, n+1), "\x01"+strings.Repeat(nought, n), strings.Repeat(full, n), strings.Repeat(nought, 31-n)+noise(n+50, n+1))
	}
	return all
}

func TestTimes(t *testing.T) {
	points := some()
	for i, n := range factors() {
		for _, p := range []spot{base(), points[i%len(points)], points[(7*i+3)%len(points)]} {
			got, e := ecdsa.Times(n, p.key())
			wantPoint(t, "a multiple", got, e, p.times(number(n)))
		}
	}
}

func TestTimesOfEachPoint(t *testing.T) {
	for _, p := range some() {
		for _, n := range []string{"", "\x01", "\x02", "\x03", noise(3, 2), noise(4, 32), sized(minus(order(), small(1)))} {
			got, e := ecdsa.Times(n, p.key())
			wantPoint(t, "a multiple", got, e, p.times(number(n)))
		}
		got, e := ecdsa.Times(sized(order()), p.key())
		wantPoint(t, "N times", got, e, spot{})
	}
}

// Each digit has its own doubled point.
func TestTimesOfEachDigit(t *testing.T) {
	p := base().times(number(noise(9, 32)))
	wanted := p
	for at := range 256 {
		got, e := ecdsa.Times(string(new(big.Int).Lsh(small(1), uint(at)).Bytes()), p.key())
		wantPoint(t, "a multiple", got, e, wanted)
		wanted = wanted.plus(wanted)
	}
}

func TestTimesOfTooManyBytes(t *testing.T) {
	for _, n := range []string{strings.Repeat(nought, 33), strings.Repeat(nought, 32) + "\x01", noise(1, 33), noise(2, 64), noise(3, 600), strings.Repeat(full, 1<<20)} {
		for _, k := range append(none(), api.EcKey{}, base().key()) {
			got, e := ecdsa.Times(n, k)
			wantRefused(t, "too many bytes", got, e, api.ErrEcNum)
		}
	}
}

func TestTimesOfNoPoints(t *testing.T) {
	for _, k := range none() {
		for _, n := range []string{"", nought, "\x01", sized(order()), noise(1, 32)} {
			got, e := ecdsa.Times(n, k)
			wantRefused(t, "no point", got, e, api.ErrEcKey)
		}
	}
}

func TestPointExamples(t *testing.T) {
	g := ecdsa.Base()
	beside := strings.Repeat("\x01", 32)
	for _, k := range []api.EcKey{{}, {X: beside, Y: beside}, {X: g.X[1:], Y: g.Y}} {
		if e := ecdsa.Check(k); e != api.ErrEcKey {
			t.Errorf("%x: %d", k, e)
		}
	}
	if e := ecdsa.Check(g); e != api.OK {
		t.Errorf("G: %d", e)
	}
	got, e := ecdsa.Add(g, api.EcKey{})
	wantPoint(t, "G and far out", got, e, base())
	got, e = ecdsa.Times("", g)
	wantPoint(t, "none times G", got, e, spot{})
	got, e = ecdsa.Times(ecdsa.Order(), g)
	wantPoint(t, "N times G", got, e, spot{})
	got, e = ecdsa.Times(sized(plus(order(), small(1))), g)
	wantPoint(t, "N + 1 times G", got, e, base())
	got, e = ecdsa.Times("\x02", g)
	if wanted := sized(fromHex("7cf27b188d034f7e8a52380304b51ac3c08969e277f21b35a60b48fc47669978")); got.X != wanted || e != api.OK {
		t.Errorf("2 G: %x, %d", got.X, e)
	}
	got, e = ecdsa.Times(strings.Repeat("\x01", 33), g)
	wantRefused(t, "33 bytes", got, e, api.ErrEcNum)
	got, e = ecdsa.Add(g, api.EcKey{X: beside, Y: beside})
	wantRefused(t, "no point", got, e, api.ErrEcKey)
}
