package cert_test

// What the tests lean on: certificates that are laid of parts, each of which may be changed.

import (
	"reflect"
	"slices"
	"strings"
	"testing"

	"ostiary/api"
	"ostiary/cert"
	"ostiary/der"
	"ostiary/ecdsa"
)

const (
	nought = "\x00"
	full   = "\xff"

	rsaSigned = "1.2.840.113549.1.1.11"
	ecSigned  = "1.2.840.10045.4.3.2"
	rsaKind   = "1.2.840.113549.1.1.1"
	ecKind    = "1.2.840.10045.2.1"
	p256      = "1.2.840.10045.3.1.7"

	usageId       = "2.5.29.15"
	dnsId         = "2.5.29.17"
	caId          = "2.5.29.19"
	constraintsId = "2.5.29.30"
	purposesId    = "2.5.29.37"
)

func prim(tag int, bytes string) api.Der { return api.Der{Tag: tag, Bytes: bytes} }

func seq(l ...api.Der) api.Der { return api.Der{Tag: api.DerSeq, Cons: true, List: l} }

// set is one of these elements, in the order that a set must have.
func set(l ...api.Der) api.Der {
	l = slices.Clone(l)
	slices.SortFunc(l, func(a, b api.Der) int { return strings.Compare(form(a), form(b)) })
	return api.Der{Tag: api.DerSet, Cons: true, List: l}
}

// context is a value [tag] of elements, plain one of bytes.
func context(tag int, l ...api.Der) api.Der {
	return api.Der{Class: api.DerContext, Tag: tag, Cons: true, List: l}
}

func plain(tag int, bytes string) api.Der {
	return api.Der{Class: api.DerContext, Tag: tag, Bytes: bytes}
}

func number(bytes string) api.Der { return prim(api.DerInt, bytes) }

func null() api.Der { return prim(api.DerNull, "") }

func yes() api.Der { return prim(api.DerBool, full) }

func no() api.Der { return prim(api.DerBool, nought) }

func bits(bytes string) api.Der { return prim(api.DerBits, nought+bytes) }

func octets(bytes string) api.Der { return prim(api.DerOctets, bytes) }

func printable(s string) api.Der { return prim(api.DerPrintable, s) }

func utc(s string) api.Der { return prim(api.DerUtc, s) }

func long(s string) api.Der { return prim(api.DerTime, s) }

func oid(s string) api.Der {
	d, e := der.OfOid(s)
	if e != api.OK {
		panic(s)
	}
	return d
}

// intOf is the integer of a number's bytes, whatever stands ahead in them.
func intOf(bytes string) api.Der {
	d, e := der.OfNat(bytes)
	if e != api.OK {
		panic(e)
	}
	return d
}

func form(d api.Der) string {
	s, e := der.Print(d)
	if e != api.OK {
		panic(e)
	}
	return s
}

// attr is an attribute as it stands in a name.
func attr(id string, value api.Der) api.Der { return set(seq(oid(id), value)) }

func common(s string) api.Der { return attr("2.5.4.3", printable(s)) }

// many are so many times the same.
func many(n int, d api.Der) []api.Der {
	var l []api.Der
	for range n {
		l = append(l, d)
	}
	return l
}

// ext is an extension whose octets are a value's form; critical one that is critical.
func ext(id string, v api.Der) api.Der { return seq(oid(id), octets(form(v))) }

func critical(id string, v api.Der) api.Der { return seq(oid(id), yes(), octets(form(v))) }

func algRsa() api.Der { return seq(oid(rsaSigned), null()) }

func algEc() api.Der { return seq(oid(ecSigned)) }

func keyOfRsa(n, e api.Der) api.Der {
	return seq(seq(oid(rsaKind), null()), bits(form(seq(n, e))))
}

func keyOfEc(k api.EcKey) api.Der {
	return seq(seq(oid(ecKind), oid(p256)), bits("\x04"+k.X+k.Y))
}

// someRsa is a key that may be: of 512 binary digits, odd.
func someRsa() api.RsaKey {
	return api.RsaKey{N: strings.Repeat("\xc5", 64), E: "\x01\x00\x01"}
}

// parts are a certificate's, ahead of laying it.
type parts struct {
	version, serial, inner, issuer, times, subject, key api.Der
	exts                                                []api.Der // none: there is no eighth element
	more                                                []api.Der // behind the others
	outer, sig                                          api.Der
}

// right are the parts of a certificate without extensions that may be.
func right() *parts {
	return &parts{
		version: context(0, number("\x02")),
		serial:  number("\x05"),
		inner:   algEc(),
		issuer:  seq(common("ca")),
		times:   seq(utc("700101000000Z"), utc("700101000001Z")),
		subject: seq(common("me")),
		key:     keyOfEc(ecdsa.Base()),
		outer:   algEc(),
		sig:     bits("\x30\x06\x02\x01\x07\x02\x01\x08"),
	}
}

// rightRsa are such parts, of the other algorithm and a key of its kind.
func rightRsa() *parts {
	p := right()
	k := someRsa()
	p.inner, p.outer, p.sig = algRsa(), algRsa(), bits("signed")
	p.key = keyOfRsa(intOf(k.N), intOf(k.E))
	return p
}

// with are right parts and extensions.
func with(exts ...api.Der) *parts {
	p := right()
	p.exts = exts
	return p
}

func (p *parts) tbs() api.Der {
	d := seq(p.version, p.serial, p.inner, p.issuer, p.times, p.subject, p.key)
	if len(p.exts) > 0 {
		d.List = append(d.List, context(3, seq(p.exts...)))
	}
	d.List = append(d.List, p.more...)
	return d
}

func (p *parts) value() api.Der { return seq(p.tbs(), p.outer, p.sig) }

func (p *parts) form() string { return form(p.value()) }

// base is what right parts say.
func base() api.Cert {
	return api.Cert{
		Tbs: form(right().tbs()), Serial: "\x05",
		Issuer: []api.Attr{{Type: "2.5.4.3", Value: "ca"}}, Subject: []api.Attr{{Type: "2.5.4.3", Value: "me"}},
		From: 0, To: 1, Kind: api.CertEc, Ec: ecdsa.Base(), Alg: api.CertEc,
		Sig:     strings.Repeat(nought, 31) + "\x07" + strings.Repeat(nought, 31) + "\x08",
		PathLen: -1, Usage: -1,
	}
}

// even makes lists without elements nil: they are the same.
func even(c api.Cert) api.Cert {
	for _, l := range []*[]api.Attr{&c.Issuer, &c.Subject} {
		if len(*l) == 0 {
			*l = nil
		}
	}
	for _, l := range []*[]string{&c.Purposes, &c.Dns, &c.Permit, &c.Exclude, &c.Unknown} {
		if len(*l) == 0 {
			*l = nil
		}
	}
	return c
}

func same(a, b api.Cert) bool { return reflect.DeepEqual(even(a), even(b)) }

// wantCert: a form says just that.
func wantCert(t *testing.T, what, s string, want api.Cert) {
	t.Helper()
	if c, e := cert.Parse(s); e != api.OK || !same(c, want) {
		t.Errorf("%s: %+v, %d, not %+v", what, c, e, want)
	}
}

// wantParts: these parts say what right ones say, but for a change.
func wantParts(t *testing.T, what string, p *parts, change func(c *api.Cert)) {
	t.Helper()
	want := base()
	want.Tbs = form(p.tbs())
	change(&want)
	wantCert(t, what, p.form(), want)
}

// wantNone: a form is refused, and nothing is told beside that.
func wantNone(t *testing.T, what, s string, want api.Errno) {
	t.Helper()
	if c, e := cert.Parse(s); e != want || !same(c, api.Cert{}) {
		t.Errorf("%s: %+v, %d, not %d", what, c, e, want)
	}
}
