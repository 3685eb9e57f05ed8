package cert_test

// P7.1: what is refused, and by which error; of several errors the first one.

import (
	"strconv"
	"strings"
	"testing"

	"ostiary/api"
	"ostiary/ecdsa"
)

func TestNoValue(t *testing.T) {
	s := right().form()
	for _, x := range []struct {
		s    string
		want api.Errno
	}{
		{"", api.ErrDerEnd}, {s[:len(s)-1], api.ErrDerEnd}, {s + nought, api.ErrDerMore}, {s + s, api.ErrDerMore},
		{"\x08\x00", api.ErrDerTag}, {"\x30\x80", api.ErrDerForm}, {strings.Repeat(nought, 16385), api.ErrDerLong},
		{strings.Repeat("\x30\x80", 20), api.ErrDerForm}, {"\x05\x00\x00", api.ErrDerMore},
	} {
		wantNone(t, "no value", x.s, x.want)
	}
	deep := seq()
	for range 15 {
		deep = seq(deep)
	}
	wantNone(t, "sixteen within one another", form(deep), api.ErrCertForm)
	wantNone(t, "one more", "\x30\x22"+form(deep)+"\x05\x00", api.ErrDerDeep)
}

func TestNoForm(t *testing.T) {
	d := right().value()
	tbs, alg, sig := d.List[0], d.List[1], d.List[2]
	for i, x := range []api.Der{
		seq(), null(), number("\x02"), set(tbs, alg, sig), context(0, tbs, alg, sig), api.Der{Class: api.DerPrivate, Tag: api.DerSeq, Cons: true, List: d.List},
		seq(tbs, alg), seq(tbs, alg, sig, sig), seq(tbs, alg, sig, null()), seq(sig, alg, tbs), seq(tbs), seq(null(), alg, sig),
		seq(context(16, tbs.List...), alg, sig), seq(tbs, null(), sig), seq(tbs, context(16, alg.List...), sig), seq(tbs, set(), sig), seq(tbs, oid(ecSigned), sig),
		seq(tbs, alg, octets("\x00a")), seq(tbs, alg, plain(3, sig.Bytes)), seq(tbs, alg, seq()),
		seq(seq(), alg, sig), seq(seq(tbs.List[:6]...), alg, sig), seq(seq(append(many(2, context(3, seq(null()))), tbs.List...)...), alg, sig),
	} {
		wantNone(t, "the whole, "+strconv.Itoa(i), form(x), api.ErrCertForm)
	}
}

// wrong is a change of right parts, and the error that it comes to.
type wrong struct {
	what   string
	change func(p *parts)
	want   api.Errno
}

// ofOne makes a wrong for each value that one part may not be.
func ofOne(what string, part func(p *parts) *api.Der, want api.Errno, l ...api.Der) []wrong {
	var all []wrong
	for i, d := range l {
		all = append(all, wrong{what + ", " + strconv.Itoa(i), func(p *parts) { *part(p) = d }, want})
	}
	return all
}

func wrongForms() []wrong {
	two := number("\x02")
	l := ofOne("the version", func(p *parts) *api.Der { return &p.version }, api.ErrCertForm,
		two, seq(two), context(1, two), context(0), context(0, two, two), context(0, two, null()), context(0, number("\x01")), context(0, number(nought)), context(0, number("\x03")), context(0, number("\x02\x00")),
		context(0, octets("\x02")), context(0, plain(2, "\x02")), plain(0, "\x02"), plain(0, form(two)), context(0, context(0, two)), api.Der{Class: api.DerApplication, Cons: true, List: []api.Der{two}}, api.Der{Class: api.DerPrivate, Cons: true, List: []api.Der{two}})
	l = append(l, ofOne("the serial", func(p *parts) *api.Der { return &p.serial }, api.ErrCertForm,
		number(nought), number(full), number("\x80"), number("\xff\x7f"), number("\x80"+strings.Repeat("a", 19)), number(strings.Repeat("a", 21)), number(nought+strings.Repeat(full, 20)), number("\x01"+strings.Repeat(nought, 20)), null(), octets("\x05"), plain(2, "\x05"), seq(number("\x05")), utc("700101000000Z"))...)
	l = append(l, ofOne("the bits", func(p *parts) *api.Der { return &p.sig }, api.ErrCertForm,
		prim(api.DerBits, "\x01\x02"), prim(api.DerBits, "\x07\x80"), prim(api.DerBits, "\x04\x30\x06\x02\x01\x07\x02\x01\x10"), octets("\x30\x06\x02\x01\x07\x02\x01\x08"))...)
	x := ext("1.2", null())
	for i, d := range []api.Der{context(3), context(3, seq()), context(3, seq(), seq(x)), context(3, seq(x), seq(x)), context(3, seq(x), null()), context(3, x, x), context(3, context(16, x)), context(3, set(x)), context(2, seq(x)), context(4, seq(x)), context(0, seq(x)), seq(seq(x)), seq(x), x, plain(3, form(seq(x))), plain(1, "a"), null(), api.Der{Class: api.DerApplication, Tag: 3, Cons: true, List: []api.Der{seq(x)}}, api.Der{Class: api.DerPrivate, Tag: 3, Cons: true, List: []api.Der{seq(x)}}} {
		l = append(l, wrong{"the eighth, " + strconv.Itoa(i), func(p *parts) { p.more = []api.Der{d} }, api.ErrCertForm})
	}
	return append(l, wrong{"a ninth", func(p *parts) { p.more = many(2, context(3, seq(x))) }, api.ErrCertForm})
}

func wrongAlgs() []wrong {
	others := []api.Der{
		seq(), seq(oid(rsaSigned)), seq(oid(rsaSigned), null(), null()), seq(null(), oid(rsaSigned)), seq(oid(rsaSigned), seq()), seq(oid(rsaSigned), plain(5, "")), seq(oid(ecSigned), null()), seq(oid(ecSigned), oid(ecSigned)), seq(null()),
		seq(octets(oid(ecSigned).Bytes)), seq(plain(6, oid(ecSigned).Bytes)), seq(seq(oid(ecSigned))), seq(oid("1.2.840.113549.1.1.5"), null()), seq(oid("1.2.840.113549.1.1.12"), null()), seq(oid("1.2.840.113549.1.1.10"), null()), seq(oid(rsaKind), null()), seq(oid("1.2.840.10045.4.3.3")), seq(oid("1.2.840.10045.4.3")), seq(oid("1.3.101.112")), seq(oid(ecKind)),
	}
	outer := func(p *parts) *api.Der { return &p.outer }
	inner := func(p *parts) *api.Der { return &p.inner }
	l := append(ofOne("the algorithm", outer, api.ErrCertAlg, append(others, algRsa())...), ofOne("the TBS's algorithm", inner, api.ErrCertAlg, append(others, algRsa(), null(), oid(ecSigned), context(16, oid(ecSigned)), set(oid(ecSigned)))...)...)
	for i, d := range others {
		l = append(l, wrong{"both algorithms, " + strconv.Itoa(i), func(p *parts) { p.outer, p.inner = d, d }, api.ErrCertAlg})
	}
	return l
}

// wrongSigs are bits that say no signature by ECDSA.
func wrongSigs() []wrong {
	one, wide, below := number("\x01"), intOf("\x01"+strings.Repeat(nought, 32)), number("\x80")
	l := []wrong{}
	for i, s := range []string{
		"", "a", strings.Repeat("a", 64), nought, form(one), form(seq()), form(seq(one)), form(seq(one, one, one)), form(seq(one, null())), form(seq(null(), one)), form(seq(one, octets("\x01"))), form(seq(one, plain(2, "\x01"))), form(set(one, one)), form(context(16, one, one)), form(seq(seq(one, one))),
		form(seq(wide, one)), form(seq(one, wide)), form(seq(intOf(strings.Repeat("a", 33)), one)), form(seq(one, intOf(full+strings.Repeat(nought, 32)))), form(seq(below, one)), form(seq(one, below)), form(seq(one, number(full))),
		form(seq(one, one)) + nought, form(seq(one, one)) + form(one), form(seq(one, one))[:7], "\x30\x80\x02\x01\x01\x02\x01\x01\x00\x00", "\x30\x07\x02\x02\x00\x01\x02\x01\x01", "\x30\x81\x06\x02\x01\x01\x02\x01\x01",
	} {
		l = append(l, wrong{"the signature, " + strconv.Itoa(i), func(p *parts) { p.sig = bits(s) }, api.ErrCertAlg})
	}
	return l
}

func wrongNames() []wrong {
	x := common("x")
	pair := seq(oid("2.5.4.3"), printable("x"))
	names := []api.Der{
		null(), number("\x01"), set(x), context(16, x), pair, x, seq(pair), seq(null()), seq(many(9, x)...), seq(set()), seq(set(pair, pair)), seq(x, set()), seq(x, pair), seq(x, null()), seq(context(17, pair)), seq(seq(pair)),
		seq(set(null())), seq(set(oid("2.5.4.3"))), seq(set(seq())), seq(set(seq(oid("2.5.4.3")))), seq(set(seq(oid("2.5.4.3"), printable("x"), printable("x")))), seq(set(seq(oid("2.5.4.3"), printable("x"), null()))), seq(set(seq(printable("x"), oid("2.5.4.3")))), seq(set(set(oid("2.5.4.3"), printable("x")))), seq(set(context(16, oid("2.5.4.3"), printable("x")))),
		seq(set(seq(octets("\x55\x04\x03"), printable("x")))), seq(set(seq(plain(6, "\x55\x04\x03"), printable("x")))), seq(set(seq(printable("x"), printable("x")))),
	}
	for _, v := range []api.Der{printable(""), prim(api.DerUtf8, ""), prim(api.DerIa5, ""), printable(strings.Repeat("x", 65)), prim(api.DerUtf8, strings.Repeat("é", 33)), prim(api.DerUtf8, strings.Repeat("x", 65)), prim(api.DerIa5, strings.Repeat("x", 65)), octets("x"), number("x"), bits("x"), oid("1.2.3"), utc("700101000000Z"), seq(printable("x")), seq(), plain(19, "x"), plain(12, "x"), null()} {
		names = append(names, seq(attr("2.5.4.3", v)), seq(x, attr("1.2", v)))
	}
	issuer := func(p *parts) *api.Der { return &p.issuer }
	subject := func(p *parts) *api.Der { return &p.subject }
	return append(ofOne("the issuer", issuer, api.ErrCertName, names...), ofOne("the subject", subject, api.ErrCertName, names...)...)
}

func wrongTimes() []wrong {
	from, to := utc("700101000000Z"), utc("700101000001Z")
	return ofOne("the times", func(p *parts) *api.Der { return &p.times }, api.ErrCertTime,
		null(), seq(), seq(from), seq(from, to, to), seq(from, to, null()), context(16, from, to), set(from, to), from, seq(seq(from, to)), seq(from, null()), seq(null(), to), seq(from, printable("700101000001Z")), seq(from, plain(23, to.Bytes)), seq(plain(24, "19490101000000Z"), to),
		seq(to, from), seq(utc("491231235959Z"), utc("500101000000Z")), seq(long("20500101000000Z"), utc("491231235959Z")), seq(long("20500101000001Z"), long("20500101000000Z")), seq(from, long("19491231235959Z")),
		seq(from, long("20000101000000Z")), seq(from, long("20491231235959Z")), seq(long("19500101000000Z"), to), seq(long("19700101000000Z"), to), seq(long("20491231235959Z"), long("20500101000000Z")), seq(long("19500101000000Z"), long("19500101000000Z")))
}

func wrongKeys() []wrong {
	g, k := ecdsa.Base(), someRsa()
	point := "\x04" + g.X + g.Y
	alg := seq(oid(ecKind), oid(p256))
	rsa := seq(oid(rsaKind), null())
	n, e := intOf(k.N), intOf(k.E)
	l := []api.Der{
		null(), seq(), seq(alg), seq(alg, bits(point), null()), seq(bits(point), alg), set(bits(point), alg), context(16, alg, bits(point)), seq(alg, octets(nought+point)), seq(alg, plain(3, nought+point)), seq(null(), bits(point)),
		seq(seq(), bits(point)), seq(seq(oid(ecKind)), bits(point)), seq(seq(oid(ecKind), null()), bits(point)), seq(seq(oid(ecKind), oid(p256), null()), bits(point)), seq(seq(oid(p256), oid(ecKind)), bits(point)), seq(seq(oid(ecKind), oid("1.3.132.0.34")), bits(point)), seq(seq(oid(ecKind), octets(oid(p256).Bytes)), bits(point)), seq(seq(oid("1.3.101.112")), bits(point)), seq(context(16, oid(ecKind), oid(p256)), bits(point)), seq(algEc(), bits(point)),
		seq(alg, bits("")), seq(alg, bits("\x04")), seq(alg, bits(point[:64])), seq(alg, bits(point+nought)), seq(alg, bits("\x05"+point[1:])), seq(alg, bits(nought+point[1:])), seq(alg, bits("\x02"+g.X)), seq(alg, bits("\x03"+g.X)), seq(alg, bits(point[1:])), seq(alg, bits("\x04"+g.Y+g.X)), seq(alg, bits("\x04"+strings.Repeat(nought, 64))), seq(alg, bits("\x06"+point[1:])), seq(alg, bits(form(seq(n, e)))),
		seq(alg, prim(api.DerBits, "\x01"+point[:64]+string([]byte{point[64] &^ 1}))), seq(alg, prim(api.DerBits, "\x01"+point+nought)),
		seq(rsa, bits(point)), seq(rsa, bits("")), seq(rsa, bits(form(n))), seq(rsa, bits(form(seq()))), seq(rsa, bits(form(seq(n)))), seq(rsa, bits(form(seq(n, e, e)))), seq(rsa, bits(form(seq(e, n)))), seq(rsa, bits(form(set(e, n)))), seq(rsa, bits(form(context(16, n, e)))), seq(rsa, bits(form(seq(n, null())))), seq(rsa, bits(form(seq(octets(k.N), e)))), seq(rsa, bits(form(seq(n, plain(2, k.E))))),
		seq(rsa, bits(form(seq(n, e))+nought)), seq(rsa, bits(form(seq(n, e))[:60])), seq(rsa, octets(nought+form(seq(n, e)))), seq(rsa, prim(api.DerBits, "\x01"+form(seq(n, e))+nought)), seq(seq(oid(rsaKind)), bits(form(seq(n, e)))), seq(seq(oid(rsaKind), null(), null()), bits(form(seq(n, e)))), seq(seq(oid(rsaKind), oid(p256)), bits(form(seq(n, e)))), seq(seq(oid(rsaKind), plain(5, "")), bits(form(seq(n, e)))), seq(algRsa(), bits(form(seq(n, e)))), seq(seq(oid(ecKind), null()), bits(form(seq(n, e)))),
		keyOfRsa(number(k.N), e), keyOfRsa(n, number("\x81")), keyOfRsa(n, number(full)), keyOfRsa(n, number("\x01")), keyOfRsa(n, number(nought)), keyOfRsa(n, number("\x02")), keyOfRsa(n, intOf("\x01\x00\x00\x00\x01")), keyOfRsa(intOf("\x7f"+k.N[1:]), e), keyOfRsa(intOf(k.N[1:]), e), keyOfRsa(intOf(k.N[:63]+"\xc4"), e), keyOfRsa(intOf("\x01"+strings.Repeat("\xc5", 256)), e), keyOfRsa(number(nought), e), keyOfRsa(intOf(strings.Repeat("\xc5", 512)), e), keyOfRsa(number("\x0f"), number("\x03")),
	}
	return ofOne("the key", func(p *parts) *api.Der { return &p.key }, api.ErrCertKey, l...)
}

func wrongExts() []wrong {
	x, id := ext("1.2", null()), oid("1.2")
	var l []wrong
	for i, d := range []api.Der{
		null(), seq(), seq(id), id, octets("x"), seq(octets("x"), id), seq(id, yes()), seq(id, no()), seq(id, octets("x"), yes()), seq(yes(), id, octets("x")), seq(id, no(), octets("x")), seq(id, yes(), octets("x"), octets("x")), seq(id, octets("x"), octets("x")), seq(id, yes(), yes(), octets("x")), seq(id, yes(), bits("x")), seq(id, bits("x")), seq(id, null()), seq(id, plain(4, "x")), seq(id, plain(1, full), octets("x")),
		seq(id, octets(full), octets("x")), seq(id, number(full), octets("x")), seq(plain(6, id.Bytes), octets("x")), seq(octets(id.Bytes), octets("x")), set(octets("x"), id), context(16, id, octets("x")), seq(x), seq(id, id, octets("x")), seq(id, null(), octets("x")), api.Der{Class: api.DerApplication, Tag: 16, Cons: true, List: x.List},
	} {
		l = append(l, wrong{"the extension, " + strconv.Itoa(i), func(p *parts) { p.exts = []api.Der{d} }, api.ErrCertExt})
		l = append(l, wrong{"the second extension, " + strconv.Itoa(i), func(p *parts) { p.exts = []api.Der{ext("1.3", null()), d} }, api.ErrCertExt})
	}
	return l
}

func allWrongs() [][]wrong {
	return [][]wrong{wrongForms(), wrongAlgs(), wrongSigs(), wrongNames(), wrongTimes(), wrongKeys(), wrongExts()}
}

func TestWrongParts(t *testing.T) {
	for _, l := range allWrongs() {
		for _, w := range l {
			p := right()
			w.change(p)
			wantNone(t, w.what, p.form(), w.want)
		}
	}
}

// Of two parts that are wrong the one that is asked first decides. Signatures are asked with the algorithm: a wrong one is told just if that is right.
func TestFirstWrongDecides(t *testing.T) {
	all := allWrongs()
	for i, l := range all {
		for _, first := range l {
			for _, others := range all[i+1:] {
				for k := 0; k < len(others); k += 1 + len(others)/7 {
					p := right()
					others[k].change(p)
					first.change(p)
					wantNone(t, first.what+" ahead of "+others[k].what, p.form(), first.want)
				}
			}
		}
	}
}

// What an algorithm asks of the bits is asked ahead of the names, and just if both are ECDSA.
func TestSignatureOfTheOtherKind(t *testing.T) {
	p := rightRsa()
	p.key = right().key
	p.sig = bits("")
	wantParts(t, "no bits by RSA", p, func(c *api.Cert) { c.Alg, c.Sig = api.CertRsa, "" })
	p.outer = algEc()
	wantNone(t, "two algorithms", p.form(), api.ErrCertAlg)
	p.inner = algEc()
	wantNone(t, "no bits by ECDSA", p.form(), api.ErrCertAlg)
}
