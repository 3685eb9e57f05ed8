package rsa_test

// P4.3: which signatures are verified.

import (
	"crypto"
	stdrsa "crypto/rsa"
	"math"
	"math/big"
	"strings"
	"testing"

	"ostiary/api"
	"ostiary/rsa"
)

func wantVerify(t *testing.T, what string, k api.RsaKey, scheme int, s, sig string, wanted bool) {
	t.Helper()
	if got := rsa.Verify(k, scheme, s, sig); got != wanted {
		t.Errorf("%s: scheme %d, N of %d bytes, E %x: %t", what, scheme, len(k.N), k.E, got)
	}
}

// exponents are some that a key may have.
func exponents() []string { return []string{"\x03", "\x11", often, full + full + full + full} }

// What signs in these tests is held against the library, so that both don't err alike.
func TestSignerAgainstLibrary(t *testing.T) {
	for _, bits := range []int{1024, 1025, 1031, 2048} {
		k := newSigner(t, bits, often)
		for _, s := range said() {
			sum := []byte(sumOf(s))
			if err := stdrsa.VerifyPKCS1v15(k.std(), crypto.SHA256, sum, []byte(k.signRs(s))); err != nil {
				t.Errorf("%d digits: %s", bits, err)
			}
			for _, salt := range salts() {
				if err := stdrsa.VerifyPSS(k.std(), crypto.SHA256, sum, []byte(k.signPs(s, salt)), &stdrsa.PSSOptions{SaltLength: 32}); err != nil {
					t.Errorf("%d digits: %s", bits, err)
				}
			}
		}
	}
}

func TestVerifyRs256(t *testing.T) {
	for _, bits := range []int{512, 513, 515, 519, 520, 521, 1024, 2047, 2048} {
		for _, e := range exponents() {
			k := newSigner(t, bits, e)
			for _, s := range said() {
				sig := k.signRs(s)
				wantVerify(t, "a signature", k.key, api.Rs256, s, sig, true)
				wantVerify(t, "of another text", k.key, api.Rs256, s+nought, sig, false)
				wantVerify(t, "of another scheme", k.key, api.Ps256, s, sig, false)
			}
		}
	}
}

func TestVerifyPs256(t *testing.T) {
	for _, bits := range []int{522, 523, 527, 528, 529, 530, 536, 537, 544, 545, 1024, 1025, 2041, 2048} {
		for _, e := range exponents() {
			k := newSigner(t, bits, e)
			for i, s := range said() {
				sig := k.signPs(s, salts()[i%len(salts())])
				wantVerify(t, "a signature", k.key, api.Ps256, s, sig, true)
				wantVerify(t, "of another text", k.key, api.Ps256, s+nought, sig, false)
				wantVerify(t, "of another scheme", k.key, api.Rs256, s, sig, false)
			}
		}
	}
}

// Keys of up to 521 digits have no room for a salt of 32 bytes, whatever they sign.
func TestVerifyPs256OfSmallKeys(t *testing.T) {
	for _, bits := range []int{512, 513, 519, 520, 521} {
		k := newSigner(t, bits, often)
		n := (bits - 1 + 7) / 8
		salt := noise(bits, n-34)
		sig := k.raise(masked("\x01"+salt, saltedSum("abc", salt), "\xbc", bits-1))
		wantVerify(t, "a shorter salt", k.key, api.Ps256, "abc", sig, false)
	}
}

func TestVerifyOfOtherSchemes(t *testing.T) {
	k := newSigner(t, 1024, often)
	rs, ps := k.signRs("abc"), k.signPs("abc", noise(1, 32))
	for _, scheme := range []int{math.MinInt, -1, 2, 3, 4, 256, 257, 1 << 32, 1<<32 + 1, math.MaxInt} {
		wantVerify(t, "no scheme", k.key, scheme, "abc", rs, false)
		wantVerify(t, "no scheme", k.key, scheme, "abc", ps, false)
	}
}

// What Open refuses is no signature: also where it comes to the same number.
func TestVerifyOfOtherSizes(t *testing.T) {
	for _, bits := range []int{529, 530, 536, 1024, 1025, 2041} {
		k := newSigner(t, bits, often)
		for scheme, sig := range []string{k.signRs("abc"), k.signPs("abc", noise(1, 32))} {
			wantVerify(t, "a signature", k.key, scheme, "abc", sig, true)
			for _, other := range []string{nought + sig, sig + nought, sig[1:], sig[:k.size-1], "", strings.Repeat(nought, k.size), strings.Repeat(full, k.size), k.key.N} {
				wantVerify(t, "another size", k.key, scheme, "abc", other, false)
			}
			more := new(big.Int).Add(number(sig), k.n)
			if more.BitLen() <= 8*k.size {
				wantVerify(t, "N more", k.key, scheme, "abc", string(more.FillBytes(make([]byte, k.size))), false)
			}
			less := new(big.Int).Sub(k.n, number(sig))
			wantVerify(t, "below 0", k.key, scheme, "abc", string(less.FillBytes(make([]byte, k.size))), false)
		}
	}
}

// A signature whose first byte is 0 must have it.
func TestVerifyOfNoughtsAhead(t *testing.T) {
	k := newSigner(t, 1024, often)
	found := 0
	for i := 0; found < 3; i++ {
		s := noise(i, 8)
		for scheme, sig := range []string{k.signRs(s), k.signPs(s, noise(i, 32))} {
			if sig[0] != 0 {
				continue
			}
			found++
			wantVerify(t, "a nought ahead", k.key, scheme, s, sig, true)
			wantVerify(t, "without it", k.key, scheme, s, sig[1:], false)
		}
	}
}

// With these keys all that is asked but for the key itself would be right.
func TestVerifyOfNoKey(t *testing.T) {
	one := api.RsaKey{N: odd(1024), E: "\x01"}
	wantVerify(t, "E 1", one, api.Rs256, "abc", blockOf("abc", 128), false)
	wantVerify(t, "E 1", one, api.Ps256, "abc", pssOf("abc", noise(1, 32), 1023), false)
	for _, bits := range []int{511, 2049} {
		k := newSigner(t, bits, often)
		wantVerify(t, "too small or too great", k.key, api.Rs256, "abc", k.signRs("abc"), false)
	}
	k := newSigner(t, 2056, often)
	wantVerify(t, "too great", k.key, api.Ps256, "abc", k.signPs("abc", noise(1, 32)), false)
	k = newSigner(t, 1024, "\x01\x00\x00\x00\x0f")
	wantVerify(t, "too great an E", k.key, api.Rs256, "abc", k.signRs("abc"), false)
	k = newSigner(t, 1024, often)
	for scheme, sig := range []string{k.signRs("abc"), k.signPs("abc", noise(1, 32))} {
		for _, key := range []api.RsaKey{{N: nought + k.key.N, E: often}, {N: k.key.N, E: nought + often}, {N: k.key.N}, {E: often}, {}} {
			wantVerify(t, "no form", key, scheme, "abc", sig, false)
			wantVerify(t, "no form", key, scheme, "abc", nought+sig, false)
		}
		other := newSigner(t, 1032, often)
		wantVerify(t, "another key", other.key, scheme, "abc", sig, false)
		wantVerify(t, "another E", api.RsaKey{N: k.key.N, E: "\x03"}, scheme, "abc", sig, false)
	}
}

// Blocks that are nearly the right one, signed as they should be.
func TestVerifyRs256OfMadeUpBlocks(t *testing.T) {
	const der = "\x30\x31\x30\x0d\x06\x09\x60\x86\x48\x01\x65\x03\x04\x02\x01\x05\x00\x04\x20"
	k := newSigner(t, 1024, "\x03")
	sum := sumOf("abc")
	laid := func(head, fill, behind string) string {
		return head + strings.Repeat(fill, k.size-len(head)-len(behind)) + behind
	}
	wantVerify(t, "the right one", k.key, api.Rs256, "abc", k.raise(laid("\x00\x01", full, nought+der+sum)), true)
	for i, block := range []string{
		laid("\x01\x01", full, nought+der+sum),
		laid("\x80\x01", full, nought+der+sum),
		laid("\x00\x02", full, nought+der+sum),
		laid("\x00\x00", full, nought+der+sum),
		laid("\x00\x01", nought, nought+der+sum),
		laid("\x00\x01", "\xfe", nought+der+sum),
		laid("\x00\x01\xfe", full, nought+der+sum),
		laid("\x00\x01", full, "\xfe\x00"+der+sum),
		laid("\x00\x01", full, "\x01"+der+sum),
		laid("\x00\x01", full, der+sum),
		laid("\x00\x01", full, nought+nought+der+sum),
		laid("\x00\x01", full, nought+sum),
		laid("\x00\x01", full, nought+der+sumOf("abd")),
		laid("\x00\x01", full, nought+der+sum[:31]),
		laid("\x00\x01", full, nought+der+sum+nought),
		laid("\x00\x01", full, nought+"\x30\x2f\x30\x0b\x06\x09\x60\x86\x48\x01\x65\x03\x04\x02\x01\x04\x20"+sum),
		laid("\x00\x01", full, nought+strings.Replace(der, "\x02\x01", "\x02\x02", 1)+sum),
		// Few bytes 255, and behind the sum whatever makes a third root.
		"\x00\x01" + strings.Repeat(full, 8) + nought + der + sum + noise(1, k.size-62),
		"\x00\x01" + nought + der + sum + noise(2, k.size-54),
	} {
		if len(block) != k.size {
			t.Fatal("the test's own blocks")
		}
		if rsa.Verify(k.key, api.Rs256, "abc", k.raise(block)) {
			t.Errorf("block %d", i)
		}
	}
}

// Upper digits that the block must not have: the first byte of a key of one digit more than whole bytes among them.
func TestVerifyPs256OfUpperDigits(t *testing.T) {
	for bits := 529; bits <= 544; bits++ {
		k := newSigner(t, bits, often)
		b := bits - 1
		for i := 0; ; i++ {
			block := number(pssOf("abc", noise(i, 32), b))
			above := new(big.Int).SetBit(block, b, 1)
			if above.Cmp(k.n) >= 0 {
				continue
			}
			sig := k.raise(formOf(above))
			if opened, f := rsa.Open(k.key, sig); f != api.OK || opened != string(above.FillBytes(make([]byte, k.size))) {
				t.Fatalf("%d digits: %x, %d", bits, opened, f)
			}
			wantVerify(t, "a digit above", k.key, api.Ps256, "abc", sig, false)
			wantVerify(t, "without it", k.key, api.Ps256, "abc", k.signPs("abc", noise(i, 32)), true)
			break
		}
	}
}
