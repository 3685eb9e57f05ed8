package cert_test

// Certificates as the library writes them are read as the library reads them.

import (
	"crypto"
	stdecdsa "crypto/ecdsa"
	"crypto/ed25519"
	"crypto/elliptic"
	stdrsa "crypto/rsa"
	"crypto/x509"
	"crypto/x509/pkix"
	"encoding/asn1"
	"math/big"
	"strings"
	"testing"
	"time"

	"ostiary/api"
	"ostiary/cert"
)

// authority and leaf are what the library is asked for.
func authority() *x509.Certificate {
	return &x509.Certificate{
		SerialNumber:                new(big.Int).SetBytes([]byte(strings.Repeat(full, 19))),
		Subject:                     pkix.Name{CommonName: "a doorkeeper", Organization: []string{"Größe & Co"}, Country: []string{"NL"}},
		NotBefore:                   time.Date(1949, 12, 31, 23, 59, 59, 0, time.UTC),
		NotAfter:                    time.Date(2050, 1, 1, 0, 0, 0, 0, time.UTC),
		KeyUsage:                    x509.KeyUsageCertSign | x509.KeyUsageCRLSign,
		BasicConstraintsValid:       true,
		IsCA:                        true,
		MaxPathLen:                  3,
		SubjectKeyId:                []byte("some id"),
		PermittedDNSDomainsCritical: true,
		PermittedDNSDomains:         []string{"example", "a.b-c.d"},
		ExcludedDNSDomains:          []string{"no.example"},
	}
}

func leaf() *x509.Certificate {
	return &x509.Certificate{
		SerialNumber:       big.NewInt(128),
		Subject:            pkix.Name{CommonName: "somebody"},
		NotBefore:          time.Date(1999, 12, 31, 23, 59, 59, 0, time.UTC),
		NotAfter:           time.Date(2049, 12, 31, 23, 59, 59, 0, time.UTC),
		KeyUsage:           x509.KeyUsageDigitalSignature | x509.KeyUsageDecipherOnly,
		ExtKeyUsage:        []x509.ExtKeyUsage{x509.ExtKeyUsageClientAuth, x509.ExtKeyUsageServerAuth},
		UnknownExtKeyUsage: []asn1.ObjectIdentifier{{1, 2, 3}},
		DNSNames:           []string{"a.example", "b.example"},
		EmailAddresses:     []string{"x@Y.example"},
		ExtraExtensions:    []pkix.Extension{{Id: asn1.ObjectIdentifier{1, 9}, Critical: true, Value: []byte("x")}, {Id: asn1.ObjectIdentifier{1, 8}, Value: []byte("y")}},
	}
}

// write has the library write a certificate.
func write(t *testing.T, c, issuer *x509.Certificate, key crypto.PublicKey, by crypto.Signer) string {
	t.Helper()
	b, err := x509.CreateCertificate(nil, c, issuer, key, by)
	if err != nil {
		t.Fatal(err)
	}
	return string(b)
}

func attrsOf(n pkix.Name) []api.Attr {
	var l []api.Attr
	for _, a := range n.Names {
		l = append(l, api.Attr{Type: a.Type.String(), Value: a.Value.(string)})
	}
	return l
}

// wantKey: the key is the library's.
func wantKey(t *testing.T, c api.Cert, key any) {
	t.Helper()
	switch k := key.(type) {
	case *stdrsa.PublicKey:
		if c.Kind != api.CertRsa || c.Rsa != (api.RsaKey{N: string(k.N.Bytes()), E: "\x01\x00\x01"}) || c.Ec != (api.EcKey{}) {
			t.Errorf("the key: %+v", c)
		}
	case *stdecdsa.PublicKey:
		if b, err := k.Bytes(); err != nil || c.Kind != api.CertEc || "\x04"+c.Ec.X+c.Ec.Y != string(b) || c.Rsa != (api.RsaKey{}) {
			t.Errorf("the key: %+v", c)
		}
	}
}

// wantAsLibrary: what is read of a form is what the library reads, but for extensions.
func wantAsLibrary(t *testing.T, s string) api.Cert {
	t.Helper()
	x, err := x509.ParseCertificate([]byte(s))
	if err != nil {
		t.Fatal(err)
	}
	c := parsed(t, s)
	if c.Tbs != string(x.RawTBSCertificate) || c.Serial != string(x.SerialNumber.Bytes()) || c.From != int(x.NotBefore.Unix()) || c.To != int(x.NotAfter.Unix()) {
		t.Errorf("%+v", c)
	}
	if !same(api.Cert{Issuer: c.Issuer, Subject: c.Subject}, api.Cert{Issuer: attrsOf(x.Issuer), Subject: attrsOf(x.Subject)}) {
		t.Errorf("the names: %v, %v", c.Issuer, c.Subject)
	}
	if c.Usage != int(x.KeyUsage) || c.Ca != x.IsCA {
		t.Errorf("%d, %t", c.Usage, c.Ca)
	}
	wantKey(t, c, x.PublicKey)
	return c
}

func TestLibrary(t *testing.T) {
	all := signers(t)
	for i, by := range all {
		self := wantAsLibrary(t, write(t, authority(), authority(), by.Public(), by))
		if !self.Ca || self.PathLen != 3 || strings.Join(self.Permit, " ") != "example a.b-c.d" || strings.Join(self.Exclude, " ") != "no.example" || len(self.Unknown)+len(self.Dns)+len(self.Purposes) > 0 {
			t.Errorf("%+v", self)
		}
		for k, key := range all {
			c := wantAsLibrary(t, write(t, leaf(), authority(), key.Public(), by))
			if c.Ca || c.PathLen != -1 || strings.Join(c.Dns, " ") != "a.example b.example" || strings.Join(c.Purposes, " ") != "1.3.6.1.5.5.7.3.2 1.3.6.1.5.5.7.3.1 1.2.3" || strings.Join(c.Unknown, " ") != "1.9" || len(c.Permit)+len(c.Exclude) > 0 {
				t.Errorf("%+v", c)
			}
			wantSigned(t, "by its issuer", c, self, true)
			wantSigned(t, "by itself", c, c, i == k)
			wantSigned(t, "the issuer", self, c, i == k)
		}
		wantSigned(t, "the issuer by itself", self, self, true)
	}
}

// Of what the library writes, too, nothing is taken that the chapter does not know.
func TestLibraryOfOtherKinds(t *testing.T) {
	ec, rsa := ecSigner(t, 1), rsaSigner(t, 1)
	ed := ed25519.NewKeyFromSeed([]byte(strings.Repeat("s", ed25519.SeedSize)))
	wide, err := stdecdsa.ParseRawPrivateKey(elliptic.P384(), []byte(strings.Repeat("s", 48)))
	if err != nil {
		t.Fatal(err)
	}
	wantNone(t, "Ed25519", write(t, leaf(), authority(), ec.Public(), ed), api.ErrCertAlg)
	for _, alg := range []x509.SignatureAlgorithm{x509.SHA384WithRSA, x509.SHA512WithRSA, x509.ECDSAWithSHA384, x509.ECDSAWithSHA512} {
		c, by := leaf(), crypto.Signer(ec)
		if c.SignatureAlgorithm = alg; alg < x509.ECDSAWithSHA1 {
			by = rsa
		}
		wantNone(t, alg.String(), write(t, c, authority(), ec.Public(), by), api.ErrCertAlg)
	}
	wantNone(t, "a key on P-384", write(t, leaf(), authority(), wide.Public(), ec), api.ErrCertKey)
	wantNone(t, "an Ed25519 key", write(t, leaf(), authority(), ed.Public(), ec), api.ErrCertKey)
	c := leaf()
	c.Subject.Country = []string{"DE", "NL"}
	wantNone(t, "two attributes in one set", write(t, c, authority(), ec.Public(), ec), api.ErrCertName)
	c = leaf()
	c.DNSNames = []string{"*.example"}
	wantNone(t, "an asterisk", write(t, c, authority(), ec.Public(), ec), api.ErrCertExt)
	c = leaf()
	c.BasicConstraintsValid, c.IsCA, c.MaxPathLen = true, true, 128
	wantNone(t, "a long path", write(t, c, authority(), ec.Public(), ec), api.ErrCertExt)
}

// wantSame as the library: whether a signature fits hangs on the key alone.
func TestLibraryTakesTheSame(t *testing.T) {
	for _, by := range signers(t) {
		s := write(t, leaf(), authority(), by.Public(), by)
		x, err := x509.ParseCertificate([]byte(s))
		if err != nil {
			t.Fatal(err)
		}
		for i := len(x.RawTBSCertificate); i < len(s); i++ {
			spoilt := flipped(s, i)
			c, e := cert.Parse(spoilt)
			if e != api.OK {
				continue
			}
			y, err := x509.ParseCertificate([]byte(spoilt))
			if err != nil {
				t.Errorf("%x: %v", spoilt, err)
				continue
			}
			wantSigned(t, "spoilt", c, c, y.CheckSignature(y.SignatureAlgorithm, y.RawTBSCertificate, y.Signature) == nil)
		}
	}
}
