package ecdsa_test

// P5.4: what follows, by the exported functions alone.

import (
	"testing"

	"ostiary/api"
	"ostiary/ecdsa"
	"ostiary/nat"
)

type laws struct{ t *testing.T }

func (l laws) add(p, q api.EcKey) api.EcKey {
	l.t.Helper()
	sum, e := ecdsa.Add(p, q)
	if e != api.OK {
		l.t.Fatalf("Add: %d", e)
	}
	return sum
}

func (l laws) times(n string, p api.EcKey) api.EcKey {
	l.t.Helper()
	multiple, e := ecdsa.Times(n, p)
	if e != api.OK {
		l.t.Fatalf("Times: %d", e)
	}
	return multiple
}

func (l laws) same(what string, p, q api.EcKey) {
	l.t.Helper()
	if p != q {
		l.t.Errorf("%s: %x, %x", what, p, q)
	}
}

func (l laws) points() []api.EcKey {
	g := ecdsa.Base()
	all := []api.EcKey{{}, g, l.times("\x02", g), l.times(less("\x01"), g)}
	for i := range 3 {
		p := l.times(noise(i, 32), g)
		all = append(all, p, l.times(less("\x01"), p), l.add(p, p))
	}
	return all
}

// less is N less a, padded to 32 bytes.
func less(a string) string {
	left, _ := nat.Sub(ecdsa.Order(), a)
	padded, _ := nat.Pad(left, 32)
	return padded
}

func TestPointsAreAGroup(t *testing.T) {
	l := laws{t}
	far := api.EcKey{}
	for _, p := range l.points() {
		l.same("far out and p", l.add(far, p), p)
		l.same("p and far out", l.add(p, far), p)
		opposite := l.times(less("\x01"), p)
		l.same("p and its opposite", l.add(p, opposite), far)
		l.same("the opposite and p", l.add(opposite, p), far)
		if opposite.X != p.X {
			t.Errorf("an opposite of another X: %x", p)
		}
		for _, q := range l.points() {
			sum := l.add(p, q)
			l.same("p + q, q + p", sum, l.add(q, p))
			if sum != far && ecdsa.Check(sum) != api.OK {
				t.Errorf("no point: %x", sum)
			}
			for _, r := range l.points() {
				l.same("(p + q) + r, p + (q + r)", l.add(sum, r), l.add(p, l.add(q, r)))
			}
		}
	}
}

func TestMultiplesOfSums(t *testing.T) {
	l := laws{t}
	for i, p := range l.points() {
		for n := range 32 {
			a, b := noise(i+n, n), noise(i+n+1, 31-n)
			sum, _ := nat.Add(a, b)
			l.same("a multiple by a sum", l.times(sum, p), l.add(l.times(a, p), l.times(b, p)))
			product, _ := nat.Mul(a, b)
			l.same("a multiple of a multiple", l.times(product, p), l.times(a, l.times(b, p)))
		}
		l.same("N times", l.times(ecdsa.Order(), p), api.EcKey{})
		more, _ := nat.Add(ecdsa.Order(), "\x05")
		l.same("N + 5 times", l.times(more, p), l.times("\x05", p))
	}
}

func TestSignaturesAreVerified(t *testing.T) {
	l := laws{t}
	for i, s := range said() {
		for j, d := range secrets() {
			k := l.times(sized(d), ecdsa.Base())
			sig := signed(d, secrets()[(3*i+j)%len(secrets())], s)
			wantVerify(t, "a signature", k, s, sig, true)
			wantVerify(t, "N less t", k, s, sig[:32]+less(sig[32:]), true)
			wantVerify(t, "N less r", k, s, less(sig[:32])+sig[32:], false)
		}
	}
}
