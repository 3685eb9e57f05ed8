package ecdsa_test

// What the tests lean on: points, keys and signatures by the library's numbers and sums alone, reckoned as the chapter's words say it.

import (
	"crypto/elliptic"
	"crypto/sha256"
	"math/big"
	"testing"

	"ostiary/api"
	"ostiary/ecdsa"
)

const (
	nought = "\x00"
	full   = "\xff"
)

// noise is the same bytes on every run for each seed, without a rule that the program could share.
func noise(seed, n int) string {
	b := make([]byte, n)
	x := uint32(2463534242) + uint32(seed)*2654435761
	if x == 0 {
		x = 1
	}
	for i := range 16 + n {
		x ^= x << 13
		x ^= x >> 17
		x ^= x << 5
		if i >= 16 {
			b[i-16] = byte(x >> 11)
		}
	}
	return string(b)
}

func number(s string) *big.Int { return new(big.Int).SetBytes([]byte(s)) }

func small(n int64) *big.Int { return big.NewInt(n) }

func sized(x *big.Int) string { return string(x.FillBytes(make([]byte, 32))) }

func fromHex(s string) *big.Int {
	x, ok := new(big.Int).SetString(s, 16)
	if !ok {
		panic(s)
	}
	return x
}

// The moduli and the numbers of the curve are the library's: so the chapter's are held against them.
func modulus() *big.Int { return elliptic.P256().Params().P }
func order() *big.Int   { return elliptic.P256().Params().N }

// left is what a number leaves, divided by m: from 0 on, also of one below 0.
func left(a, m *big.Int) *big.Int { return new(big.Int).Mod(a, m) }

func plus(a, b *big.Int) *big.Int  { return new(big.Int).Add(a, b) }
func minus(a, b *big.Int) *big.Int { return new(big.Int).Sub(a, b) }
func times(a, b *big.Int) *big.Int { return new(big.Int).Mul(a, b) }

func divided(a, b, m *big.Int) *big.Int {
	return left(times(a, new(big.Int).ModInverse(b, m)), m)
}

// spot is a point; the one far out has no numbers.
type spot struct{ x, y *big.Int }

func base() spot {
	g := elliptic.P256().Params()
	return spot{g.Gx, g.Gy}
}

// above is what Y times Y must be over x.
func above(x *big.Int) *big.Int {
	cube := times(x, times(x, x))
	return left(plus(minus(cube, times(small(3), x)), elliptic.P256().Params().B), modulus())
}

// over is the point over x with the smaller Y.
func over(x *big.Int) (spot, bool) {
	y := new(big.Int).ModSqrt(above(x), modulus())
	if y == nil {
		return spot{}, false
	}
	if other := minus(modulus(), y); other.Cmp(y) < 0 {
		y = other
	}
	return spot{x, y}, true
}

func (a spot) far() bool { return a.x == nil }

func (a spot) opposite() spot {
	if a.far() {
		return a
	}
	return spot{a.x, left(minus(small(0), a.y), modulus())}
}

func (a spot) same(b spot) bool {
	return a.far() && b.far() || !a.far() && !b.far() && a.x.Cmp(b.x) == 0 && a.y.Cmp(b.y) == 0
}

func (a spot) plus(b spot) spot {
	switch {
	case a.far():
		return b
	case b.far():
		return a
	case a.same(b.opposite()):
		return spot{}
	}
	p := modulus()
	var s *big.Int
	if a.same(b) {
		s = divided(minus(times(small(3), times(a.x, a.x)), small(3)), times(small(2), a.y), p)
	} else {
		s = divided(minus(b.y, a.y), left(minus(b.x, a.x), p), p)
	}
	x := left(minus(minus(times(s, s), a.x), b.x), p)
	return spot{x, left(minus(times(s, minus(a.x, x)), a.y), p)}
}

func (a spot) times(n *big.Int) spot {
	var sum spot
	for i := n.BitLen() - 1; i >= 0; i-- {
		sum = sum.plus(sum)
		if n.Bit(i) == 1 {
			sum = sum.plus(a)
		}
	}
	return sum
}

func (a spot) key() api.EcKey {
	if a.far() {
		return api.EcKey{}
	}
	return api.EcKey{X: sized(a.x), Y: sized(a.y)}
}

// some are points of all kinds: far out, few times G, of noise, at the ends of the numbers, and those by which sums come out close to P or to 2^256.
func some() []spot {
	all := []spot{{}, base(), base().opposite()}
	for n := range int64(5) {
		p := base().times(small(n + 2))
		all = append(all, p, p.opposite())
	}
	for i := range 6 {
		all = append(all, base().times(left(number(noise(i, 32)), order())))
	}
	for x := range int64(10) {
		all = appendOver(all, small(x))
		all = appendOver(all, minus(modulus(), small(x+1)))
		all = appendOver(all, plus(order(), small(x)))
		all = appendOver(all, shared(minus(modulus(), small(x+1))))
		all = appendOver(all, shared(minus(new(big.Int).Lsh(small(1), 255), small(x))))
	}
	for _, p := range append(low(), narrow()...) {
		all = append(all, p, p.opposite())
	}
	return all
}

func appendOver(all []spot, x *big.Int) []spot {
	if p, ok := over(x); ok {
		return append(all, p)
	}
	return all
}

// shared is the number that comes to m, when 2^256 times it is divided by P: products are often made of such m.
func shared(m *big.Int) *big.Int {
	return divided(m, new(big.Int).Lsh(small(1), 256), modulus())
}

// low are points whose Y has no more than a byte.
func low() []spot {
	return []spot{
		{fromHex("d7325d7646cd60d80a92738ceb345f844cffaf35841022cab176f692de8de1d7"), small(5)},
		{fromHex("9b21c2de1da31d68731dbdaf97d7ab3f979131e28e3dc5b2077d5a7187914a78"), small(6)},
		{fromHex("b2ed6eacbc9f7da8564d94b7e4df51fccffa296dc6693e4fd7acceaed56ac453"), small(7)},
	}
}

// narrow are points for which 2^256 Y Y leaves few: sums that come to it come out close to P before, or behind it.
func narrow() []spot {
	return []spot{
		{fromHex("a04a5cf32f3a01bc8aba5d63fa207c7053afd9f49ca101c81924c574f53c1e49"), fromHex("ffffffff0000000100000000ffffffff000000020000000000000000")},
		{fromHex("6134483de8b05f7e9a5cb2788b8af00b8a91b2b2e018df868d4852f8f53a5047"), fromHex("48537ee370cc58ddbc39cc60710405473fbd0cd57dfdba3c560747577e065a1b")},
		{fromHex("68292d0e290422d041c1ff6eef72c4cf0fcc555abb3f75321fc41ce6807193f0"), fromHex("7fffffff8000000080000000000000000000000080000000000000000000")},
		{fromHex("2e77f46b8819da81bfef7ba174510ed2748ad7961e2c360936ed72b596d60e2d"), fromHex("3fffffffc0000000400000002fffffffd000000070000000000000000")},
		{fromHex("68420caa58d331335a6e4d4ab7aec5c16baa9b9d8c57c8c407509f67120400b8"), fromHex("8002ffff7ffd0000800300000002fffffffd000080060000000000000000")},
	}
}

// none are no points: of another length, too great, or beside the curve.
func none() []api.EcKey {
	g := base().key()
	keys := []api.EcKey{
		{X: "", Y: g.Y}, {X: g.X, Y: ""}, {X: g.X[1:], Y: g.Y}, {X: g.X, Y: g.Y[1:]}, {X: g.X[:31], Y: g.Y}, {X: g.X, Y: g.Y[:31]},
		{X: nought + g.X, Y: g.Y}, {X: g.X, Y: nought + g.Y}, {X: g.X + nought, Y: g.Y}, {X: g.X, Y: g.Y + nought}, {X: nought + g.X, Y: nought + g.Y},
		{X: g.Y, Y: g.X}, {X: g.X, Y: g.X}, {X: g.X + g.Y}, {Y: g.X + g.Y}, {X: nought, Y: nought}, {X: nought}, {Y: nought},
		{X: sized(small(0)), Y: sized(small(0))}, {X: sized(small(1)), Y: sized(small(1))}, {X: sized(small(0)), Y: g.Y}, {X: g.X, Y: sized(small(0))},
		{X: sized(modulus()), Y: sized(modulus())},
	}
	most := minus(new(big.Int).Lsh(small(1), 256), small(1))
	for _, x := range []*big.Int{modulus(), plus(modulus(), small(1)), most} {
		keys = append(keys, api.EcKey{X: sized(x), Y: g.Y}, api.EcKey{X: g.X, Y: sized(x)})
	}
	// These would be points, if numbers from P on were taken.
	for _, p := range some() {
		if p.far() {
			continue
		}
		x, y := plus(p.x, modulus()), plus(p.y, modulus())
		if x.BitLen() <= 256 {
			keys = append(keys, api.EcKey{X: sized(x), Y: sized(p.y)})
		}
		if y.BitLen() <= 256 {
			keys = append(keys, api.EcKey{X: sized(p.x), Y: sized(y)})
		}
	}
	return keys
}

func sumOf(s string) *big.Int {
	h := sha256.Sum256([]byte(s))
	return number(string(h[:]))
}

// signed is s signed with d, by the chapter's words, with the number k.
func signed(d, k *big.Int, s string) string {
	r := left(base().times(k).x, order())
	t := divided(plus(sumOf(s), times(r, d)), k, order())
	return sized(r) + sized(t)
}

// signerOf is the only key by which s has a signature of that t and of the point that is come to: by it each of them can be tried.
func signerOf(s string, t *big.Int, to spot) (api.EcKey, string) {
	r := left(to.x, order())
	k := to.times(t).plus(base().times(sumOf(s)).opposite()).times(new(big.Int).ModInverse(r, order()))
	return k.key(), sized(r) + sized(t)
}

func wantPoint(t *testing.T, what string, got api.EcKey, e api.Errno, wanted spot) {
	t.Helper()
	if got != wanted.key() || e != api.OK {
		t.Errorf("%s: %x, %x, %d, not %x", what, got.X, got.Y, e, wanted.key())
	}
}

func wantRefused(t *testing.T, what string, got api.EcKey, e, wanted api.Errno) {
	t.Helper()
	if got != (api.EcKey{}) || e != wanted {
		t.Errorf("%s: %x, %x, %d, not %d", what, got.X, got.Y, e, wanted)
	}
}

func wantVerify(t *testing.T, what string, k api.EcKey, s, sig string, wanted bool) {
	t.Helper()
	if got := ecdsa.Verify(k, s, sig); got != wanted {
		t.Errorf("%s: %x, %x: %x of %q: %t", what, k.X, k.Y, sig, s, got)
	}
}
