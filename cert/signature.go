package cert

import (
	"ostiary/api"
	"ostiary/nat"
)

const (
	oidRsaSigned = "1.2.840.113549.1.1.11"
	oidEcSigned  = "1.2.840.10045.4.3.2"
	ecNumber     = 32 // bytes
)

// readSignature reads the algorithm, which must stand in the TBS, too, and the signature as its verification takes it.
func readSignature(c *api.Cert, outer, inner, bits api.Der) error {
	alg, ok := algOf(outer)
	again, also := algOf(inner)
	if !ok || !also || alg != again {
		return inside{"the algorithm", fault{api.ErrCertAlg}}
	}
	c.Alg = alg
	c.Sig, _ = wholeBits(bits)
	if alg == api.CertEc {
		if c.Sig, ok = ecSignature(c.Sig); !ok {
			return inside{"its numbers", fault{api.ErrCertAlg}}
		}
	}
	return nil
}

func algOf(d api.Der) (int, bool) {
	switch {
	case isNullAlg(d, oidRsaSigned):
		return api.CertRsa, true
	case isSeq(d, 1, 1) && isOid(d.List[0], oidEcSigned):
		return api.CertEc, true
	}
	return 0, false
}

// ecSignature is the two numbers of a form, each with as many bytes as ecdsa asks for.
func ecSignature(form string) (string, bool) {
	r, t, ok := twoNumbers(form)
	if !ok {
		return "", false
	}
	first, e := nat.Pad(r, ecNumber)
	second, f := nat.Pad(t, ecNumber)
	return first + second, e == api.OK && f == api.OK
}
