package der_test

// A certificate as the library writes it is read whole, and written again as it was.

import (
	"crypto/ed25519"
	"crypto/x509"
	"crypto/x509/pkix"
	"math/big"
	"strings"
	"testing"
	"time"

	"ostiary/api"
	"ostiary/der"
)

func certificate(t *testing.T) string {
	t.Helper()
	key := ed25519.NewKeyFromSeed([]byte(strings.Repeat("s", ed25519.SeedSize)))
	c := &x509.Certificate{
		SerialNumber:          new(big.Int).SetBytes([]byte(strings.Repeat("\xff", 19))),
		Subject:               pkix.Name{CommonName: "door é", Country: []string{"NL", "DE"}},
		NotBefore:             time.Date(1999, 12, 31, 23, 59, 59, 0, time.UTC),
		NotAfter:              time.Date(2050, 1, 1, 0, 0, 0, 0, time.UTC),
		KeyUsage:              x509.KeyUsageCertSign | x509.KeyUsageDigitalSignature,
		ExtKeyUsage:           []x509.ExtKeyUsage{x509.ExtKeyUsageClientAuth},
		BasicConstraintsValid: true,
		IsCA:                  true,
		MaxPathLen:            3,
		DNSNames:              []string{"a.example", "b.example"},
		PermittedDNSDomains:   []string{"example"},
	}
	b, err := x509.CreateCertificate(nil, c, c, key.Public(), key)
	if err != nil {
		t.Fatal(err)
	}
	return string(b)
}

func TestCertificateOfTheLibrary(t *testing.T) {
	form := certificate(t)
	d, e := der.Parse(form)
	if e != api.OK || len(d.List) != 3 || len(d.List[0].List) != 8 {
		t.Fatalf("Parse: %v, %d", d, e)
	}
	wantForm(t, d, form)
	tbs := d.List[0].List
	if s, e := der.Nat(tbs[1]); s != strings.Repeat("\xff", 19) || e != api.OK {
		t.Errorf("the serial: %x, %d", s, e)
	}
	for i, want := range []int{946684799, 2524608000} {
		if n, e := der.Time(tbs[4].List[i]); n != want || e != api.OK {
			t.Errorf("time %d: %d, %d", i, n, e)
		}
	}
	if s, e := der.Oid(tbs[6].List[0].List[0]); s != "1.3.101.112" || e != api.OK {
		t.Errorf("the key's kind: %s, %d", s, e)
	}
	if s, n, e := der.Bits(d.List[2]); len(s) != ed25519.SignatureSize || n != 0 || e != api.OK {
		t.Errorf("the signature: %x, %d, %d", s, n, e)
	}
}
