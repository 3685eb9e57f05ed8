package cert

import (
	"ostiary/api"
	"ostiary/ecdsa"
	"ostiary/rsa"
)

const (
	oidRsaKey = "1.2.840.113549.1.1.1"
	oidEcKey  = "1.2.840.10045.2.1"
	oidP256   = "1.2.840.10045.3.1.7"
	// Ahead of a point's two numbers stands that neither of them is left out.
	bothNumbers = 4
)

func readKey(c *api.Cert, d api.Der) error {
	if !isSeq(d, 2, 2) {
		return fault{api.ErrCertKey}
	}
	kind, ok := keyKind(d.List[0])
	if !ok {
		return inside{"its kind", fault{api.ErrCertKey}}
	}
	read := readEcKey
	switch kind {
	case api.CertRsa:
		read = readRsaKey
		fallthrough
	case api.CertEc:
		c.Kind = kind
		if s, whole := wholeBits(d.List[1]); whole && read(c, s) {
			return nil
		}
	}
	return inside{"its numbers", fault{api.ErrCertKey}}
}

func keyKind(d api.Der) (int, bool) {
	switch {
	case isNullAlg(d, oidRsaKey):
		return api.CertRsa, true
	case isSeq(d, 2, 2) && isOid(d.List[0], oidEcKey) && isOid(d.List[1], oidP256):
		return api.CertEc, true
	}
	return 0, false
}

// readRsaKey reads the form of a key; false, if it says none that may be.
func readRsaKey(c *api.Cert, form string) bool {
	n, e, ok := twoNumbers(form)
	c.Rsa = api.RsaKey{N: n, E: e}
	return ok && rsa.Check(c.Rsa) == api.OK
}

// readEcKey reads the bytes of a key; false, if they say none that may be.
func readEcKey(c *api.Cert, s string) bool {
	if len(s) != 1+2*ecNumber || s[0] != bothNumbers {
		return false
	}
	c.Ec = api.EcKey{X: s[1 : 1+ecNumber], Y: s[1+ecNumber:]}
	return ecdsa.Check(c.Ec) == api.OK
}
