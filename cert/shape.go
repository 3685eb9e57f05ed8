package cert

import (
	"ostiary/api"
	"ostiary/der"
)

// is: is a value of the class 0 and a tag?
func is(d api.Der, tag int) bool { return d.Class == api.DerUniversal && d.Tag == tag }

// isContext: is it of the class 2 and a tag, constructed or not?
func isContext(d api.Der, tag int, cons bool) bool {
	return d.Class == api.DerContext && d.Tag == tag && d.Cons == cons
}

// isSeq: is it a sequence of so many elements?
func isSeq(d api.Der, least, most int) bool {
	return is(d, api.DerSeq) && hasSize(d, least, most)
}

func hasSize(d api.Der, least, most int) bool { return len(d.List) >= least && len(d.List) <= most }

// isOid: is it the OID of a text?
func isOid(d api.Der, id string) bool {
	s, e := der.Oid(d)
	return e == api.OK && s == id
}

// isNullAlg: is it a sequence of the OID of a text and NULL?
func isNullAlg(d api.Der, id string) bool {
	return isSeq(d, 2, 2) && isOid(d.List[0], id) && is(d.List[1], api.DerNull)
}

func isYes(d api.Der) bool { return is(d, api.DerBool) && d.Bytes == "\xff" }

// wholeBits are the bytes of bits of which all digits count.
func wholeBits(d api.Der) (string, bool) {
	s, over, e := der.Bits(d)
	return s, e == api.OK && over == 0
}

// twoNumbers are those of the form of a sequence of two integers, neither below 0.
func twoNumbers(form string) (first, second string, ok bool) {
	d, e := der.Parse(form)
	if e != api.OK || !isSeq(d, 2, 2) {
		return "", "", false
	}
	first, e = der.Nat(d.List[0])
	second, f := der.Nat(d.List[1])
	return first, second, e == api.OK && f == api.OK
}
