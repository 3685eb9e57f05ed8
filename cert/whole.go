package cert

import (
	"ostiary/api"
	"ostiary/der"
)

// The places of the TBS's elements; the last one may be missing.
const (
	atVersion = iota
	atSerial
	atAlg
	atIssuer
	atTimes
	atSubject
	atKey
	atExtensions
	tbsSize
)

const (
	version3   = "\x02" // versions are counted from 0 on
	mostSerial = 20     // bytes
	tagVersion = 0
	tagExts    = 3
	untold     = -1
)

// certOf is what a certificate says: its form is asked as a whole, ahead of all that stands in its parts.
func certOf(s string) (api.Cert, error) {
	d, e := der.Parse(s)
	if e != api.OK {
		return api.Cert{}, inside{"the bytes", fault{e}}
	}
	if !isForm(d) {
		return api.Cert{}, inside{"the form", fault{api.ErrCertForm}}
	}
	c := api.Cert{PathLen: untold, Usage: untold}
	if err := readParts(&c, d); err != nil {
		return api.Cert{}, err
	}
	return c, nil
}

func isForm(d api.Der) bool {
	if !isSeq(d, 3, 3) || !isSeq(d.List[0], atExtensions, tbsSize) || !is(d.List[1], api.DerSeq) {
		return false
	}
	_, whole := wholeBits(d.List[2])
	tbs := d.List[0].List
	return whole && isVersion(tbs[atVersion]) && isSerial(tbs[atSerial]) && isExtensions(tbs[atExtensions:])
}

func isVersion(d api.Der) bool {
	return isContext(d, tagVersion, true) && hasSize(d, 1, 1) && is(d.List[0], api.DerInt) && d.List[0].Bytes == version3
}

func isSerial(d api.Der) bool {
	number, e := der.Nat(d)
	return e == api.OK && number != "" && len(d.Bytes) <= mostSerial
}

// isExtensions: is there nothing, or the value that the extensions stand in?
func isExtensions(l []api.Der) bool {
	if len(l) == 0 {
		return true
	}
	return isContext(l[0], tagExts, true) && hasSize(l[0], 1, 1) && is(l[0].List[0], api.DerSeq) && len(l[0].List[0].List) > 0
}

// readParts reads what stands in a certificate of the right form, in the order in which its parts are refused.
func readParts(c *api.Cert, d api.Der) error {
	tbs := d.List[0].List
	// Nothing is refused here: both are parts of what was read, and the serial was asked.
	c.Tbs, _ = der.Print(d.List[0])
	c.Serial, _ = der.Nat(tbs[atSerial])
	if err := readSignature(c, d.List[1], tbs[atAlg], d.List[2]); err != nil {
		return inside{"the signature", err}
	}
	var err error
	if c.Issuer, err = nameOf(tbs[atIssuer]); err != nil {
		return inside{"the issuer", err}
	}
	if c.Subject, err = nameOf(tbs[atSubject]); err != nil {
		return inside{"the subject", err}
	}
	if err = readTimes(c, tbs[atTimes]); err != nil {
		return inside{"the times", err}
	}
	if err = readKey(c, tbs[atKey]); err != nil {
		return inside{"the key", err}
	}
	if len(tbs) > atExtensions {
		return readExtensions(c, tbs[atExtensions].List[0].List)
	}
	return nil
}
