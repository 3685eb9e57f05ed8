package ecdsa_test

// P5.3: which signatures are verified.

import (
	"crypto"
	stdecdsa "crypto/ecdsa"
	"crypto/elliptic"
	"crypto/sha256"
	"encoding/asn1"
	"math/big"
	"strings"
	"testing"

	"ostiary/api"
	"ostiary/ecdsa"
)

func said() []string {
	return []string{"", "abc", "sample", nought, noise(1, 55), noise(2, 64), noise(3, 1000), strings.Repeat(full, 5000)}
}

// secrets are numbers to sign with, from the least to the greatest.
func secrets() []*big.Int {
	all := []*big.Int{small(1), small(2), minus(order(), small(1)), minus(order(), small(2)), new(big.Int).Rsh(order(), 1)}
	for i := range 6 {
		all = append(all, plus(left(number(noise(i+20, 32)), minus(order(), small(1))), small(1)))
	}
	return all
}

// libraryVerifies is the library's answer to what has the right lengths.
func libraryVerifies(t *testing.T, k api.EcKey, s, sig string) bool {
	t.Helper()
	key, err := stdecdsa.ParseUncompressedPublicKey(elliptic.P256(), []byte("\x04"+k.X+k.Y))
	if err != nil {
		t.Fatal(err)
	}
	sum := sha256.Sum256([]byte(s))
	return stdecdsa.Verify(key, sum[:], number(sig[:32]), number(sig[32:]))
}

func TestVerifyWhatTheLibrarySigns(t *testing.T) {
	for _, d := range secrets() {
		secret, err := stdecdsa.ParseRawPrivateKey(elliptic.P256(), []byte(sized(d)))
		if err != nil {
			t.Fatal(err)
		}
		k := base().times(d).key()
		for _, s := range said() {
			sum := sha256.Sum256([]byte(s))
			der, err := secret.Sign(nil, sum[:], crypto.SHA256)
			if err != nil {
				t.Fatal(err)
			}
			var two struct{ R, T *big.Int }
			if _, err := asn1.Unmarshal(der, &two); err != nil {
				t.Fatal(err)
			}
			sig := sized(two.R) + sized(two.T)
			wantVerify(t, "the library's", k, s, sig, true)
			wantVerify(t, "of another text", k, s+nought, sig, false)
		}
	}
}

func TestVerifyWhatIsSigned(t *testing.T) {
	for i, d := range secrets() {
		k := base().times(d).key()
		other := base().times(plus(d, small(3))).key()
		for j, s := range said() {
			sig := signed(d, secrets()[(i+j)%len(secrets())], s)
			if !libraryVerifies(t, k, s, sig) {
				t.Errorf("%x: the library says no", sig)
			}
			wantVerify(t, "a signature", k, s, sig, true)
			wantVerify(t, "of another text", k, "x"+s, sig, false)
			wantVerify(t, "of another key", other, s, sig, false)
			wantVerify(t, "of the opposite key", base().times(d).opposite().key(), s, sig, false)
			wantVerify(t, "r and t changed over", k, s, sig[32:]+sig[:32], false)
		}
	}
}

// The point that is come to has an X from N on, at the ends, or of few digits: what counts is what X leaves, divided by N.
func TestVerifyOfEachPoint(t *testing.T) {
	great := 0
	for _, to := range some() {
		if to.far() || left(to.x, order()).Sign() == 0 {
			continue
		}
		for _, n := range []*big.Int{small(1), small(2), minus(order(), small(1)), new(big.Int).Rsh(order(), 1), number(noise(5, 31))} {
			k, sig := signerOf("abc", n, to)
			wantVerify(t, "a signature", k, "abc", sig, libraryVerifies(t, k, "abc", sig))
			wantVerify(t, "a signature", k, "abc", sig, true)
			wantVerify(t, "of another text", k, "abd", sig, false)
			wantVerify(t, "r and N", k, "abc", raised(sig[:32])+sig[32:], false)
			wantVerify(t, "t and N", k, "abc", sig[:32]+raised(sig[32:]), false)
			if to.x.Cmp(order()) >= 0 {
				great++
				wantVerify(t, "X itself", k, "abc", sized(to.x)+sig[32:], false)
			}
		}
	}
	if great == 0 {
		t.Error("no X from N on")
	}
}

// raised is the number with N, if 32 bytes have room for it, else the greatest.
func raised(s string) string {
	x := plus(number(s), order())
	if x.BitLen() > 256 {
		return strings.Repeat(full, 32)
	}
	return sized(x)
}

// (e / t) G and (r / t) k are the same point.
func TestVerifyOfADoubledPoint(t *testing.T) {
	for i, s := range said() {
		e, n := sumOf(s), number(noise(i+40, 30))
		r := left(base().times(n).x, order())
		k := base().times(divided(e, r, order()))
		sig := sized(r) + sized(divided(times(small(2), e), n, order()))
		wantVerify(t, "a doubled point", k.key(), s, sig, true)
		wantVerify(t, "the opposite", k.opposite().key(), s, sig, false)
	}
}

// (e / t) G and (r / t) k are opposites: X is none then, whatever r is.
func TestVerifyOfTheOneFarOut(t *testing.T) {
	for i, s := range said() {
		for _, r := range append(secrets(), number(noise(i, 20))) {
			k := base().times(divided(sumOf(s), r, order())).opposite().key()
			for _, n := range []*big.Int{small(1), number(noise(i, 32)), minus(order(), small(1))} {
				wantVerify(t, "far out", k, s, sized(r)+sized(left(n, order())), false)
			}
		}
	}
}

func TestVerifyAtTheEndsOfTheNumbers(t *testing.T) {
	d, n := number(noise(60, 31)), number(noise(61, 31))
	k := base().times(d).key()
	sig := signed(d, n, "abc")
	r, rest := sig[:32], sig[32:]
	wantVerify(t, "a signature", k, "abc", sig, true)
	ends := []*big.Int{small(0), small(1), minus(order(), small(1)), order(), plus(order(), small(1)), modulus(), number(strings.Repeat(full, 32))}
	for _, x := range ends {
		wantVerify(t, "another r", k, "abc", sized(x)+rest, false)
		wantVerify(t, "another t", k, "abc", r+sized(x), false)
		for _, y := range ends {
			wantVerify(t, "both", k, "abc", sized(x)+sized(y), false)
			wantVerify(t, "both, of G", base().key(), "abc", sized(x)+sized(y), false)
		}
	}
}

func TestVerifyOfOtherLengths(t *testing.T) {
	d := number(noise(70, 31))
	k := base().times(d).key()
	sig := signed(d, number(noise(71, 31)), "abc")
	for n := range 64 {
		wantVerify(t, "shorter", k, "abc", sig[:n], false)
		wantVerify(t, "shorter", k, "abc", sig[64-n:], false)
	}
	for n := range 70 {
		more := strings.Repeat(nought, n+1)
		wantVerify(t, "longer", k, "abc", sig+more, false)
		wantVerify(t, "longer", k, "abc", more+sig, false)
		wantVerify(t, "longer", k, "abc", sig[:32]+more+sig[32:], false)
		wantVerify(t, "longer", k, "abc", sig+sig[:min(n+1, 64)], false)
	}
	wantVerify(t, "longer", k, "abc", nought+sig[:32]+nought+sig[32:], false)
	wantVerify(t, "far longer", k, "abc", strings.Repeat(sig, 2000), false)
}

// Numbers with noughts ahead have all their bytes.
func TestVerifyOfNoughtsAhead(t *testing.T) {
	d := number(noise(80, 31))
	k := base().times(d).key()
	found := map[int]int{}
	for i := int64(2); found[0] < 2 || found[32] < 2; i++ {
		sig := signed(d, small(i), "abc")
		for _, at := range []int{0, 32} {
			if sig[at] == 0 && found[at] < 2 {
				found[at]++
				wantVerify(t, "noughts ahead", k, "abc", sig, true)
				wantVerify(t, "without one", k, "abc", sig[:at]+sig[at+1:], false)
				wantVerify(t, "without one", k, "abc", sig[:at]+sig[at+1:]+nought, false)
			}
		}
	}
}

func TestVerifyOfEachBit(t *testing.T) {
	d := number(noise(90, 31))
	k := base().times(d).key()
	sig := signed(d, number(noise(91, 31)), "abc")
	for at := range 8 * len(sig) {
		b := []byte(sig)
		b[at/8] ^= 1 << (at % 8)
		wantVerify(t, "another digit", k, "abc", string(b), false)
	}
}

// But for the key all that is asked would be right: without one, the sum is (e / t) G alone.
func TestVerifyOfTheKeyFarOut(t *testing.T) {
	for i, s := range said() {
		n := number(noise(i+100, 31))
		sig := sized(left(base().times(n).x, order())) + sized(divided(sumOf(s), n, order()))
		wantVerify(t, "far out", api.EcKey{}, s, sig, false)
	}
}

func TestVerifyOfNoKey(t *testing.T) {
	sig := signed(small(1), number(noise(110, 31)), "abc")
	wantVerify(t, "a signature", base().key(), "abc", sig, true)
	for _, k := range none() {
		wantVerify(t, "no key", k, "abc", sig, false)
	}
	// A key whose X begins with 0 must have that byte.
	for d := int64(2); ; d++ {
		k := base().times(small(d)).key()
		if k.X[0] == 0 {
			sig := signed(small(d), number(noise(111, 31)), "abc")
			wantVerify(t, "a nought ahead", k, "abc", sig, true)
			wantVerify(t, "without it", api.EcKey{X: k.X[1:], Y: k.Y}, "abc", sig, false)
			break
		}
	}
}

func TestVerifyExamples(t *testing.T) {
	wantVerify(t, "63 bytes", ecdsa.Base(), "abc", strings.Repeat("\x01", 63), false)
	wantVerify(t, "far out", api.EcKey{}, "abc", strings.Repeat("\x01", 64), false)
	// RFC 6979, A.2.5: the messages "sample" and "test", by SHA-256.
	d := fromHex("c9afa9d845ba75166b5c215767b1d6934e50c3db36e89b127b8a622b120f6721")
	k := base().times(d).key()
	for s, n := range map[string]string{"sample": "a6e3c57dd01abe90086538398355dd4c3b17aa873382b0f24d6129493d8aad60", "test": "d16b6ae827f17175e040871a1c7ec3500192c4c92677336ec2537acaee0008e0"} {
		wantVerify(t, s, k, s, signed(d, fromHex(n), s), true)
	}
	sample := sized(fromHex("efd48b2aacb6a8fd1140dd9cd45e81d69d2c877b56aaf991c34d0ea84eaf3716")) + sized(fromHex("f7cb1c942d657c41d436c7a1b6e29f65f3e900dbb9aff4064dc4ab2f843acda8"))
	wantVerify(t, "sample", k, "sample", sample, true)
	wantVerify(t, "test", k, "test", sample, false)
}
