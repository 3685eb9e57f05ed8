package cert_test

// P7.1: extensions, those that are known and others.

import (
	"strconv"
	"strings"
	"testing"

	"ostiary/api"
)

// wantValue: a known extension of that value, critical or not, says just what change does.
func wantValue(t *testing.T, id string, v api.Der, change func(c *api.Cert)) {
	t.Helper()
	wantParts(t, id, with(ext(id, v)), change)
	wantParts(t, id+", critical", with(critical(id, v)), change)
}

// wantNoValue: a known extension may not have that value, critical or not.
func wantNoValue(t *testing.T, id string, v api.Der) {
	t.Helper()
	wantNone(t, id+" of "+written(v), with(ext(id, v)).form(), api.ErrCertExt)
	wantNone(t, id+", critical, of "+written(v), with(critical(id, v)).form(), api.ErrCertExt)
}

// usage is a value of these digits, the first one first.
func usage(digits string) api.Der {
	b := make([]byte, (len(digits)+7)/8)
	for i := range len(digits) {
		b[i/8] |= (digits[i] - '0') << (7 - i%8)
	}
	return prim(api.DerBits, string([]byte{byte(8*len(b) - len(digits))})+string(b))
}

func TestUsage(t *testing.T) {
	for size := 1; size <= 12; size++ {
		for n := range 1 << size {
			digits, sum := "", 0
			for i := range size {
				digits += strconv.Itoa(n >> i & 1)
				sum += n & (1 << i)
			}
			if size <= 9 && digits[size-1] == '1' {
				wantParts(t, "the usage "+digits, with(ext(usageId, usage(digits))), func(c *api.Cert) { c.Usage = sum })
			} else {
				wantNone(t, "the usage "+digits, with(critical(usageId, usage(digits))).form(), api.ErrCertExt)
			}
		}
	}
	wantValue(t, usageId, usage("1"), func(c *api.Cert) { c.Usage = 1 })
	wantValue(t, usageId, usage("000001001"), func(c *api.Cert) { c.Usage = 32 + 256 })
	for _, v := range []api.Der{bits(""), bits("\x80"), bits("\x80\x80"), bits("\x01\x00"), bits("\x80\x00\x01"), prim(api.DerBits, "\x07\x00\x00\x80"), bits(strings.Repeat(full, 100)), octets("\x07\x80"), plain(3, "\x07\x80"), number("\x07"), null(), seq(), seq(usage("1"))} {
		wantNoValue(t, usageId, v)
	}
}

func host(s string) api.Der { return plain(2, s) }

func TestDns(t *testing.T) {
	none := func(*api.Cert) {}
	for _, l := range [][]string{{"a"}, {"b", "a", "b"}, {"a.b-c.d", "0", strings.Repeat("a", 63)}, strings.Split("a b c d e f g h i j k l m n o p", " ")} {
		var hosts []api.Der
		for _, s := range l {
			hosts = append(hosts, host(s))
		}
		wantValue(t, dnsId, seq(hosts...), func(c *api.Cert) { c.Dns = l })
		if len(l) < 16 {
			mixed := append([]api.Der{plain(1, "X@Y")}, hosts...)
			wantValue(t, dnsId, seq(append(mixed, context(4, seq()))...), func(c *api.Cert) { c.Dns = l })
		}
	}
	for tag := range 31 {
		if tag != 2 {
			wantValue(t, dnsId, seq(plain(tag, "")), none)
			wantValue(t, dnsId, seq(plain(tag, "A..")), none)
			wantValue(t, dnsId, seq(context(tag)), none)
			wantValue(t, dnsId, seq(context(tag, host("A"), null()), host("a")), func(c *api.Cert) { c.Dns = []string{"a"} })
		}
	}
	wantValue(t, dnsId, seq(many(16, plain(7, "\x7f\x00\x00\x01"))...), none)
	for _, v := range []api.Der{seq(), seq(many(17, host("a"))...), seq(many(17, plain(1, "a"))...), null(), host("a"), set(host("a")), context(16, host("a")), octets("a"), seq(seq(host("a"))), prim(api.DerIa5, "a")} {
		wantNoValue(t, dnsId, v)
	}
	for _, x := range []api.Der{host(""), host("A"), host("*.a"), host("a."), host(strings.Repeat("a", 64)), host(strings.Repeat("a.", 126) + "aa"), context(2), context(2, host("a")), context(2, prim(api.DerIa5, "a")), null(), prim(api.DerIa5, "a"), number("\x02"), seq(), api.Der{Class: api.DerApplication, Tag: 2, Bytes: "a"}, api.Der{Class: api.DerPrivate, Tag: 2, Bytes: "a"}, api.Der{Class: api.DerApplication, Tag: 1, Bytes: "a"}, api.Der{Class: api.DerPrivate, Tag: 1, Cons: true}} {
		wantNoValue(t, dnsId, seq(x))
		wantNoValue(t, dnsId, seq(host("a"), x))
		wantNoValue(t, dnsId, seq(plain(1, ""), x, host("a")))
	}
}

func TestCa(t *testing.T) {
	wantValue(t, caId, seq(), func(*api.Cert) {})
	wantValue(t, caId, seq(yes()), func(c *api.Cert) { c.Ca = true })
	for n := range 128 {
		wantValue(t, caId, seq(yes(), number(string([]byte{byte(n)}))), func(c *api.Cert) { c.Ca, c.PathLen = true, n })
	}
	zero := number(nought)
	for _, v := range []api.Der{
		null(), yes(), zero, octets(""), set(), set(yes()), context(16), context(16, yes()), seq(no()), seq(no(), zero), seq(zero), seq(zero, yes()), seq(null()), seq(null(), zero), seq(octets(full)), seq(plain(1, full)), seq(plain(1, full), zero),
		seq(yes(), number("\x00\x80")), seq(yes(), number("\x01\x00")), seq(yes(), number("\x7f\xff")), seq(yes(), number("\x00\xff")), seq(yes(), number(full)), seq(yes(), number("\x80")), seq(yes(), intOf(strings.Repeat("a", 500))), seq(yes(), null()), seq(yes(), yes()), seq(yes(), octets(nought)), seq(yes(), plain(2, nought)), seq(yes(), seq(zero)), seq(yes(), zero, zero), seq(yes(), zero, null()), seq(yes(), yes(), zero), seq(seq()), seq(seq(yes())),
	} {
		wantNoValue(t, caId, v)
	}
}

// of is a constraint's part: one sequence for each host.
func of(tag int, hosts ...string) api.Der {
	d := context(tag)
	for _, s := range hosts {
		d.List = append(d.List, seq(host(s)))
	}
	return d
}

func TestConstraints(t *testing.T) {
	sixteen := strings.Split("a b c d e f g h i j k l m n o p", " ")
	for _, l := range [][]string{{"a"}, {"b", "a", "b"}, {"a.b-c.d", "0"}, sixteen} {
		wantValue(t, constraintsId, seq(of(0, l...)), func(c *api.Cert) { c.Permit = l })
		wantValue(t, constraintsId, seq(of(1, l...)), func(c *api.Cert) { c.Exclude = l })
		wantValue(t, constraintsId, seq(of(0, l...), of(1, sixteen...)), func(c *api.Cert) { c.Permit, c.Exclude = l, sixteen })
		wantValue(t, constraintsId, seq(of(0, "x"), of(1, l...)), func(c *api.Cert) { c.Permit, c.Exclude = []string{"x"}, l })
	}
	for _, v := range []api.Der{
		null(), seq(), octets("a"), of(0, "a"), set(of(0, "a")), context(16, of(0, "a")), seq(null()), seq(host("a")), seq(seq(host("a"))), seq(seq(seq(host("a")))), seq(plain(0, "a")), seq(plain(1, form(seq(host("a"))))), seq(of(2, "a")), seq(of(3, "a")), seq(api.Der{Class: api.DerApplication, Cons: true, List: of(0, "a").List}), seq(api.Der{Class: api.DerPrivate, Tag: 1, Cons: true, List: of(0, "a").List}),
		seq(of(1, "a"), of(0, "a")), seq(of(0, "a"), of(0, "a")), seq(of(1, "a"), of(1, "a")), seq(of(0, "a"), of(1, "a"), of(1, "a")), seq(of(0, "a"), of(1, "a"), null()), seq(of(0, "a"), null()), seq(of(0, "a"), of(2, "a")), seq(null(), of(1, "a")), seq(of(2, "a"), of(1, "a")),
	} {
		wantNoValue(t, constraintsId, v)
	}
	for tag := range 2 {
		for _, x := range []api.Der{of(tag), of(tag, append(sixteen, "q")...), of(tag, ""), of(tag, "A"), of(tag, ".a"), of(tag, "a", "a."), of(tag, "a-", "a"), context(tag, host("a")), context(tag, seq()), context(tag, null()), context(tag, seq(host("a"), host("b"))), context(tag, seq(host("a"), number(nought))), context(tag, seq(plain(1, "a"))), context(tag, seq(plain(7, "a"))), context(tag, seq(context(2, host("a")))), context(tag, seq(prim(api.DerIa5, "a"))), context(tag, set(host("a"))), context(tag, context(16, host("a"))), context(tag, seq(host("a")), seq()), context(tag, seq(host("a")), seq(plain(1, "a"))), context(tag, seq(api.Der{Class: api.DerPrivate, Tag: 2, Bytes: "a"}))} {
			wantNoValue(t, constraintsId, seq(x))
			wantNoValue(t, constraintsId, seq(of(0, "a"), x))
			wantNoValue(t, constraintsId, seq(x, of(1, "a")))
		}
	}
}

func TestPurposes(t *testing.T) {
	for _, l := range [][]string{{"1.2.3"}, {"2.5.29.37.0"}, {"1.3.6.1.5.5.7.3.2", "0.0", "1.3.6.1.5.5.7.3.2"}, {"1.1", "1.2", "1.3", "1.4", "1.5", "1.6", "1.7", "1.8"}} {
		var ids []api.Der
		for _, s := range l {
			ids = append(ids, oid(s))
		}
		wantValue(t, purposesId, seq(ids...), func(c *api.Cert) { c.Purposes = l })
	}
	id := oid("1.2")
	for _, v := range []api.Der{null(), seq(), id, seq(many(9, id)...), set(id), context(16, id), seq(null()), seq(id, null()), seq(null(), id), seq(octets("\x2a")), seq(plain(6, "\x2a")), seq(seq(id)), seq(id, seq(id))} {
		wantNoValue(t, purposesId, v)
	}
}

// The octets of a known extension must be a form, whole; of another one they may be anything.
func TestOctets(t *testing.T) {
	right := map[string]api.Der{usageId: usage("1"), dnsId: seq(host("a")), caId: seq(yes()), constraintsId: seq(of(0, "a")), purposesId: seq(oid("1.2"))}
	for id, v := range right {
		s := form(v)
		for _, x := range []string{"", s[:len(s)-1], s + nought, s + s, s[1:], "\x30\x80" + s[2:] + "\x00\x00", s[:1] + "\x81" + s[1:], "\x1f" + s[1:], full} {
			wantNone(t, id, with(seq(oid(id), octets(x))).form(), api.ErrCertExt)
			wantNone(t, id, with(seq(oid(id), yes(), octets(x))).form(), api.ErrCertExt)
			wantParts(t, "another one", with(seq(oid("2.5.29.14"), octets(x))), func(*api.Cert) {})
			wantParts(t, "another critical one", with(seq(oid("2.5.29.14"), yes(), octets(x))), func(c *api.Cert) { c.Unknown = []string{"2.5.29.14"} })
		}
		for other := range right {
			// A constraint is a list of values of the class 2, as names are.
			if other != id && !(id == constraintsId && other == dnsId) {
				wantNoValue(t, other, v)
			}
		}
	}
}

func TestUnknown(t *testing.T) {
	l := []string{"1.2", "2.5.29.36", "2.5.29.18", "2.5.29", "2.5.29.15.1", "2.5.29.16", "0.0", "2.5.29.14"}
	var exts []api.Der
	for i, id := range l {
		exts = append(exts, critical(id, null()), ext("1.3."+strconv.Itoa(i), null()))
	}
	wantParts(t, "others", with(exts...), func(c *api.Cert) { c.Unknown = l })
	// One that stands within a known one's number is another one.
	exts = append(exts, critical(caId, seq(yes())), ext(usageId, usage("01")))
	wantParts(t, "others and known ones", with(exts...), func(c *api.Cert) { c.Unknown, c.Ca, c.Usage = l, true, 2 })
}

func TestAllKnown(t *testing.T) {
	all := []api.Der{critical(purposesId, seq(oid("1.2"))), ext(constraintsId, seq(of(1, "x"))), critical("1.9", null()), ext(caId, seq(yes(), number("\x03"))), critical(dnsId, seq(host("a"))), critical(usageId, usage("101"))}
	change := func(c *api.Cert) {
		c.Purposes, c.Exclude, c.Unknown, c.Ca, c.PathLen, c.Dns, c.Usage = []string{"1.2"}, []string{"x"}, []string{"1.9"}, true, 3, []string{"a"}, 5
	}
	for i := range all {
		wantParts(t, "all of them", with(append(append([]api.Der{}, all[i:]...), all[:i]...)...), change)
	}
}

func TestTwice(t *testing.T) {
	right := []api.Der{critical(purposesId, seq(oid("1.2"))), ext(constraintsId, seq(of(1, "x"))), critical("1.9", null()), ext("1.8", null()), ext(caId, seq()), critical(dnsId, seq(host("a"))), critical(usageId, usage("101"))}
	for i, x := range right {
		id := x.List[0]
		for _, again := range []api.Der{x, seq(id, octets("")), seq(id, yes(), octets("other")), seq(id, octets(form(null())))} {
			wantNone(t, "right behind it", with(x, again).form(), api.ErrCertTwice)
			wantNone(t, "at the end", with(append(right[:len(right):len(right)], again)...).form(), api.ErrCertTwice)
			// What comes first decides: a wrong value ahead, none that is an extension ahead or behind.
			wantNone(t, "behind a wrong value", with(right[(i+1)%len(right)], x, ext("1.7", null()), ext(caId+".1", null()), again, null()).form(), api.ErrCertTwice)
			wantNone(t, "behind none", with(x, null(), again).form(), api.ErrCertExt)
		}
	}
	wrong := ext(caId, null())
	wantNone(t, "a wrong value first", with(wrong, wrong).form(), api.ErrCertExt)
	wantNone(t, "a wrong value ahead", with(right[0], wrong, right[0]).form(), api.ErrCertExt)
	wantNone(t, "a wrong value behind", with(right[0], right[0], wrong).form(), api.ErrCertTwice)
}

// As many extensions as a value may have are gone through.
func TestManyExtensions(t *testing.T) {
	var exts []api.Der
	var l []string
	for i := range 1000 {
		id := "1.2." + strconv.Itoa(i)
		exts, l = append(exts, seq(oid(id), yes(), octets(""))), append(l, id)
	}
	wantParts(t, "many", with(exts...), func(c *api.Cert) { c.Unknown = l })
	wantNone(t, "the last one twice", with(append(exts, exts[999])...).form(), api.ErrCertTwice)
	wantNone(t, "the first one twice", with(append(exts, exts[0])...).form(), api.ErrCertTwice)
}
