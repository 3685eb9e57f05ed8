package cert_test

// P7.1: what a certificate says, but for its extensions.

import (
	"strconv"
	"strings"
	"testing"

	"ostiary/api"
	"ostiary/der"
	"ostiary/ecdsa"
)

func TestRight(t *testing.T) {
	wantParts(t, "right parts", right(), func(*api.Cert) {})
	k := someRsa()
	wantParts(t, "parts of the other kind", rightRsa(), func(c *api.Cert) {
		c.Alg, c.Sig, c.Kind, c.Rsa, c.Ec = api.CertRsa, "signed", api.CertRsa, k, api.EcKey{}
	})
	// The algorithm and the key's kind don't hang on each other.
	p := right()
	p.key = rightRsa().key
	wantParts(t, "an RSA key", p, func(c *api.Cert) { c.Kind, c.Rsa, c.Ec = api.CertRsa, k, api.EcKey{} })
	p = rightRsa()
	p.key = right().key
	wantParts(t, "signed by RSA", p, func(c *api.Cert) { c.Alg, c.Sig = api.CertRsa, "signed" })
}

func TestSerials(t *testing.T) {
	for _, s := range []string{"\x01", "\x7f", "\x00\x80", "\x01\x00", nought + strings.Repeat(full, 19), "\x7f" + strings.Repeat(full, 19), strings.Repeat("a", 20)} {
		p := right()
		p.serial = number(s)
		wantParts(t, "a serial", p, func(c *api.Cert) { c.Serial = strings.TrimLeft(s, nought) })
	}
}

func TestRsaSignatures(t *testing.T) {
	for _, s := range []string{"", nought, "a", strings.Repeat("s", 300), "\x30\x06\x02\x01\x07\x02\x01\x08"} {
		p := rightRsa()
		p.sig = bits(s)
		p.key = right().key
		wantParts(t, "a signature", p, func(c *api.Cert) { c.Alg, c.Sig = api.CertRsa, s })
	}
}

func TestEcSignatures(t *testing.T) {
	numbers := []string{"", "\x01", "\x80", "\x01\x00", strings.Repeat("a", 31), strings.Repeat("a", 32), strings.Repeat(full, 32), ecdsa.Order()}
	for _, r := range numbers {
		for _, n := range numbers {
			p := right()
			p.sig = bits(form(seq(intOf(r), intOf(n))))
			wantParts(t, "a signature", p, func(c *api.Cert) {
				c.Sig = strings.Repeat(nought, 32-len(r)) + r + strings.Repeat(nought, 32-len(n)) + n
			})
		}
	}
}

func TestNames(t *testing.T) {
	long, eight := strings.Repeat("é", 32), many(8, common("x"))
	for _, x := range []struct {
		name api.Der
		want []api.Attr
	}{
		{seq(), nil},
		{seq(attr("1.2", prim(api.DerUtf8, "é"))), []api.Attr{{Type: "1.2", Value: "é"}}},
		{seq(attr("2.5.4.10", prim(api.DerIa5, "a@b\x00"))), []api.Attr{{Type: "2.5.4.10", Value: "a@b\x00"}}},
		{seq(attr("0.0", printable("a")), attr("2.999.2147483647", prim(api.DerUtf8, long))), []api.Attr{{Type: "0.0", Value: "a"}, {Type: "2.999.2147483647", Value: long}}},
		{seq(common("b"), common("a"), common("b")), []api.Attr{{Type: "2.5.4.3", Value: "b"}, {Type: "2.5.4.3", Value: "a"}, {Type: "2.5.4.3", Value: "b"}}},
	} {
		p := right()
		p.issuer = x.name
		wantParts(t, "an issuer", p, func(c *api.Cert) { c.Issuer = x.want })
		p = right()
		p.subject = x.name
		wantParts(t, "a subject", p, func(c *api.Cert) { c.Subject = x.want })
	}
	p := right()
	p.issuer = seq(eight...)
	wantParts(t, "eight attributes", p, func(c *api.Cert) {
		c.Issuer = nil
		for range 8 {
			c.Issuer = append(c.Issuer, api.Attr{Type: "2.5.4.3", Value: "x"})
		}
	})
	for n := 1; n <= 64; n++ {
		p := right()
		p.subject = seq(common(strings.Repeat("x", n)))
		wantParts(t, "a value of "+strconv.Itoa(n), p, func(c *api.Cert) { c.Subject[0].Value = strings.Repeat("x", n) })
	}
}

func TestTimes(t *testing.T) {
	for _, x := range []struct{ from, to api.Der }{
		{utc("500101000000Z"), utc("491231235959Z")},
		{utc("500101000000Z"), utc("500101000000Z")},
		{utc("491231235959Z"), long("20500101000000Z")},
		{long("19491231235959Z"), utc("500101000000Z")},
		{long("00000101000000Z"), long("99991231235959Z")},
		{long("00000229000000Z"), long("00000229000000Z")},
		{long("20500101000000Z"), long("20500101000001Z")},
		{utc("000229120000Z"), utc("000301000000Z")},
	} {
		p := right()
		p.times = seq(x.from, x.to)
		from, e := der.Time(x.from)
		to, f := der.Time(x.to)
		if e != api.OK || f != api.OK {
			t.Fatal(x, e, f)
		}
		wantParts(t, "times", p, func(c *api.Cert) { c.From, c.To = from, to })
	}
}

func TestKeys(t *testing.T) {
	n := strings.Repeat("\x81", 256)
	for _, k := range []api.RsaKey{someRsa(), {N: n, E: "\x03"}, {N: n, E: full + full + full + full}, {N: "\x80" + strings.Repeat(nought, 62) + "\x01", E: "\x03"}, {N: "\x01" + strings.Repeat(nought, 99) + "\x01", E: "\x11"}} {
		p := rightRsa()
		p.key = keyOfRsa(intOf(k.N), intOf(k.E))
		wantParts(t, "an RSA key", p, func(c *api.Cert) {
			c.Alg, c.Sig, c.Kind, c.Rsa, c.Ec = api.CertRsa, "signed", api.CertRsa, k, api.EcKey{}
		})
	}
	for i := range 20 {
		k, e := ecdsa.Times(string([]byte{byte(i + 1)}), ecdsa.Base())
		if e != api.OK {
			t.Fatal(e)
		}
		p := right()
		p.key = keyOfEc(k)
		wantParts(t, "an EC key", p, func(c *api.Cert) { c.Ec = k })
	}
}
