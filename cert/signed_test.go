package cert_test

// P7.2 and P7.3: who signed what. Signatures are made by the library alone.

import (
	"crypto"
	stdecdsa "crypto/ecdsa"
	"crypto/elliptic"
	stdrsa "crypto/rsa"
	"crypto/sha256"
	"math/big"
	"strings"
	"testing"

	"ostiary/api"
	"ostiary/cert"
)

// primeOf is the next prime behind some noise, with its upper two digits 1, whose less one shares nothing with 65537.
func primeOf(seed, size int) *big.Int {
	s := source(seed)
	p := whole(s.bytes(size / 8))
	p.SetBit(p, size-1, 1).SetBit(p, size-2, 1).SetBit(p, 0, 1)
	for ; ; p.Add(p, big.NewInt(2)) {
		if p.ProbablyPrime(8) && new(big.Int).Mod(p, big.NewInt(65537)).Int64() != 1 {
			return p
		}
	}
}

// rsaSigner is the same key on every run.
func rsaSigner(t *testing.T, seed int) *stdrsa.PrivateKey {
	t.Helper()
	p, q := primeOf(2*seed, 512), primeOf(2*seed+1, 512)
	one := big.NewInt(1)
	phi := new(big.Int).Mul(new(big.Int).Sub(p, one), new(big.Int).Sub(q, one))
	k := &stdrsa.PrivateKey{PublicKey: stdrsa.PublicKey{N: new(big.Int).Mul(p, q), E: 65537}, D: new(big.Int).ModInverse(big.NewInt(65537), phi), Primes: []*big.Int{p, q}}
	k.Precompute()
	if err := k.Validate(); err != nil {
		t.Fatal(err)
	}
	return k
}

func ecSigner(t *testing.T, seed int) *stdecdsa.PrivateKey {
	t.Helper()
	s := source(seed)
	k, err := stdecdsa.ParseRawPrivateKey(elliptic.P256(), []byte(nought+s.bytes(31)))
	if err != nil {
		t.Fatal(err)
	}
	return k
}

// keyPart is a signer's key as it stands in a certificate.
func keyPart(t *testing.T, k crypto.Signer) api.Der {
	t.Helper()
	switch x := k.Public().(type) {
	case *stdrsa.PublicKey:
		return keyOfRsa(intOf(string(x.N.Bytes())), intOf("\x01\x00\x01"))
	case *stdecdsa.PublicKey:
		b, err := x.Bytes()
		if err != nil {
			t.Fatal(err)
		}
		return keyOfEc(api.EcKey{X: string(b[1:33]), Y: string(b[33:])})
	}
	t.Fatal("no such key")
	return api.Der{}
}

// issue signs parts: what the library writes are the bits.
func issue(t *testing.T, p *parts, by crypto.Signer) string {
	t.Helper()
	p.inner, p.outer = algEc(), algEc()
	if _, ok := by.(*stdrsa.PrivateKey); ok {
		p.inner, p.outer = algRsa(), algRsa()
	}
	sum := sha256.Sum256([]byte(form(p.tbs())))
	b, err := by.Sign(nil, sum[:], crypto.SHA256)
	if err != nil {
		t.Fatal(err)
	}
	p.sig = bits(string(b))
	return p.form()
}

func parsed(t *testing.T, s string) api.Cert {
	t.Helper()
	c, e := cert.Parse(s)
	if e != api.OK {
		t.Fatal(e)
	}
	return c
}

func signers(t *testing.T) []crypto.Signer {
	return []crypto.Signer{rsaSigner(t, 1), ecSigner(t, 1), rsaSigner(t, 2), ecSigner(t, 2)}
}

// issuers are two certificates for each signer, which bear its key, and are alike in nothing else.
func issuers(t *testing.T, k crypto.Signer) []api.Cert {
	p := right()
	p.key = keyPart(t, k)
	q := rightRsa()
	q.key, q.serial, q.subject, q.times, q.exts = p.key, number("\x77"), seq(), seq(long("19000101000000Z"), long("19010101000000Z")), []api.Der{critical("1.9", null())}
	return []api.Cert{parsed(t, p.form()), parsed(t, q.form())}
}

func TestSigned(t *testing.T) {
	all := signers(t)
	for i, by := range all {
		for n := range 6 {
			p := with(ext("1.2", octets(strings.Repeat("x", 50*n))))
			p.key = keyPart(t, all[n%len(all)])
			p.serial = number(string([]byte{byte(n + 1)}))
			c := parsed(t, issue(t, p, by))
			for k, other := range all {
				for _, issuer := range issuers(t, other) {
					if got := cert.Signed(c, issuer); got != (i == k) {
						t.Errorf("signed by %d, held against %d: %t", i, k, got)
					}
				}
			}
		}
	}
}

// flipped is s with another binary digit in one byte.
func flipped(s string, i int) string {
	b := []byte(s)
	b[i] ^= 1 << (i % 8)
	return string(b)
}

func TestSpoilt(t *testing.T) {
	for _, by := range signers(t)[:2] {
		c := parsed(t, issue(t, right(), by))
		issuer := issuers(t, by)[0]
		for i := 0; i < len(c.Tbs); i += 5 {
			x := c
			x.Tbs = flipped(c.Tbs, i)
			wantSigned(t, "another TBS", x, issuer, false)
		}
		for i := range c.Sig {
			x := c
			x.Sig = flipped(c.Sig, i)
			wantSigned(t, "another signature", x, issuer, false)
		}
		for _, s := range []string{"", c.Sig[1:], c.Sig[:len(c.Sig)-1], c.Sig + nought, nought + c.Sig} {
			x := c
			x.Sig = s
			wantSigned(t, "another length", x, issuer, false)
		}
		for _, s := range []string{"", c.Tbs[1:], c.Tbs + nought} {
			x := c
			x.Tbs = s
			wantSigned(t, "another TBS", x, issuer, false)
		}
	}
}

func wantSigned(t *testing.T, what string, c, issuer api.Cert, want bool) {
	t.Helper()
	if cert.Signed(c, issuer) != want {
		t.Errorf("%s: %t", what, !want)
	}
}

// Of all fields six count: of the one Tbs, Alg and Sig, of the other one its key, of its kind alone.
func TestSignedFields(t *testing.T) {
	for i, by := range signers(t)[:2] {
		c := parsed(t, issue(t, right(), by))
		issuer := issuers(t, by)[0]
		bare := api.Cert{Tbs: c.Tbs, Alg: c.Alg, Sig: c.Sig}
		key := api.Cert{Kind: issuer.Kind, Rsa: issuer.Rsa, Ec: issuer.Ec}
		wantSigned(t, "the fields alone", bare, key, true)
		both := key
		if i == 0 {
			both.Ec = api.EcKey{X: "x"}
		} else {
			both.Rsa = api.RsaKey{N: "n"}
		}
		both.Alg, both.Sig, both.Tbs, bare.Kind = 7, "s", "t", 9
		wantSigned(t, "other fields beside", bare, both, true)
		for _, n := range []int{-1, 0, 1, 2, 1 << 40} {
			x, y := bare, key
			if x.Alg = n; n != c.Alg {
				wantSigned(t, "another algorithm", x, key, false)
			}
			if y.Kind = n; n != key.Kind {
				wantSigned(t, "another kind", bare, y, false)
				wantSigned(t, "both others", x, y, false)
			}
		}
	}
}

// A key of both kinds: the algorithm and the kind must be the same.
func TestKeysOfBothKinds(t *testing.T) {
	all := signers(t)
	rsaKey, ecKey := issuers(t, all[0])[0], issuers(t, all[1])[0]
	byRsa, byEc := parsed(t, issue(t, right(), all[0])), parsed(t, issue(t, right(), all[1]))
	for kind := range 3 {
		issuer := api.Cert{Kind: kind, Rsa: rsaKey.Rsa, Ec: ecKey.Ec}
		wantSigned(t, "by RSA", byRsa, issuer, kind == api.CertRsa)
		wantSigned(t, "by ECDSA", byEc, issuer, kind == api.CertEc)
	}
}

// PS256 is no algorithm of certificates.
func TestSignedByPss(t *testing.T) {
	k := rsaSigner(t, 1)
	c := parsed(t, issue(t, right(), k))
	sum := sha256.Sum256([]byte(c.Tbs))
	s := source(1)
	b, err := stdrsa.SignPSS(strings.NewReader(s.bytes(1000)), k, crypto.SHA256, sum[:], &stdrsa.PSSOptions{SaltLength: 32})
	if err != nil {
		t.Fatal(err)
	}
	wantSigned(t, "by PS256", api.Cert{Tbs: c.Tbs, Sig: string(b), Alg: api.CertRsa}, issuers(t, k)[0], false)
	wantSigned(t, "no fields", api.Cert{}, api.Cert{}, false)
	wantSigned(t, "no fields by ECDSA", api.Cert{Alg: api.CertEc}, api.Cert{Kind: api.CertEc}, false)
	wantSigned(t, "numbers that are 0", api.Cert{Alg: api.CertEc, Sig: strings.Repeat(nought, 64)}, issuers(t, ecSigner(t, 1))[0], false)
}
