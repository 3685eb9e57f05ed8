package rsa_test

// P4.4: what follows.

import (
	"math/big"
	"testing"

	"ostiary/api"
	"ostiary/rsa"
)

// One signature alone is right: none that differs in a digit is, and the right one is the block to the power D.
func TestOneRs256Signature(t *testing.T) {
	for _, bits := range []int{512, 513, 520} {
		for _, e := range exponents() {
			k := newSigner(t, bits, e)
			sig := k.signRs("abc")
			b, f := rsa.Block("abc", k.size)
			if f != api.OK || k.raise(b) != sig {
				t.Errorf("%d digits: %x, %d", bits, b, f)
			}
			if opened, f := rsa.Open(k.key, sig); opened != b || f != api.OK {
				t.Errorf("%d digits: %x, %d, not %x", bits, opened, f, b)
			}
			wantVerify(t, "the signature", k.key, api.Rs256, "abc", sig, true)
			for at := range 8 * k.size {
				wantVerify(t, "another digit", k.key, api.Rs256, "abc", flipped(sig, at), false)
			}
		}
	}
}

// No two signatures open as the same: what was opened is undone by D.
func TestOpenIsUndone(t *testing.T) {
	for _, bits := range []int{512, 517, 1024} {
		for _, e := range exponents() {
			k := newSigner(t, bits, e)
			for i := range 10 {
				x := new(big.Int).Mod(number(noise(i, k.size)), k.n)
				sig := string(x.FillBytes(make([]byte, k.size)))
				if opened, f := rsa.Open(k.key, sig); f != api.OK || k.raise(opened) != sig {
					t.Errorf("%d digits: %x, %d", bits, opened, f)
				}
			}
		}
	}
}

func TestAnySaltIsVerified(t *testing.T) {
	for _, bits := range []int{522, 529, 530, 1024} {
		k := newSigner(t, bits, often)
		all := salts()
		for i := range 20 {
			all = append(all, noise(1000+i, 32))
		}
		for _, salt := range all {
			for _, s := range []string{"", "abc", noise(8, 200)} {
				wantVerify(t, "a salt", k.key, api.Ps256, s, k.signPs(s, salt), true)
			}
		}
	}
}

func TestNoOtherDigitOfPs256(t *testing.T) {
	for _, bits := range []int{522, 529, 530} {
		k := newSigner(t, bits, "\x03")
		sig := k.signPs("abc", noise(9, 32))
		for at := range 8 * k.size {
			wantVerify(t, "another digit", k.key, api.Ps256, "abc", flipped(sig, at), false)
		}
	}
}

// Nothing is kept: the same is answered whatever was asked ahead.
func TestNothingIsKept(t *testing.T) {
	k, other := newSigner(t, 530, often), newSigner(t, 531, "\x03")
	sig, ps := k.signRs("abc"), other.signPs("abc", noise(1, 32))
	for range 3 {
		wantVerify(t, "a signature", k.key, api.Rs256, "abc", sig, true)
		wantVerify(t, "of another key", other.key, api.Rs256, "abc", sig, false)
		wantVerify(t, "another signature", other.key, api.Ps256, "abc", ps, true)
		wantVerify(t, "of another key", k.key, api.Ps256, "abc", ps, false)
	}
}
