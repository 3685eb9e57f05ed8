package cert_test

// P7.3: what follows; and what the rules of all layers ask for memory.

import (
	"strings"
	"testing"

	"ostiary/api"
	"ostiary/cert"
	"ostiary/der"
	"ostiary/ecdsa"
)

// behindHead is a form but for its first byte and its length.
func behindHead(s string) string {
	switch s[1] {
	case 129:
		return s[3:]
	case 130:
		return s[4:]
	}
	return s[2:]
}

// The TBS's bytes stand behind the head: what is signed is what was handed in.
func TestTbsStandsBehindTheHead(t *testing.T) {
	s := source(11)
	sizes := [3]int{}
	for range 3000 {
		f := s.some(false).form()
		c, e := cert.Parse(f)
		if e != api.OK || c.Tbs == "" || !strings.HasPrefix(behindHead(f), c.Tbs) {
			t.Errorf("%x: %x, %d", f, c.Tbs, e)
		}
		sizes[max(0, int(f[1])-128)]++
	}
	if sizes[2] == 0 || sizes[1] == 0 {
		t.Errorf("lengths of %v sizes", sizes)
	}
}

// What is read is laid in one way: of no other bytes are the same TBS and the same signature told.
func TestNoOtherBytes(t *testing.T) {
	s := source(13)
	taken := 0
	for range 300 {
		f := s.some(false).form()
		c := parsed(t, f)
		for range 100 {
			b := []byte(f)
			b[s.below(len(b))] ^= 1 << s.below(8)
			x, e := cert.Parse(string(b))
			if e != api.OK {
				continue
			}
			taken++
			if x.Tbs == c.Tbs && x.Sig == c.Sig {
				t.Errorf("%x and %x are read the same", f, b)
			}
		}
	}
	if taken < 3000 {
		t.Errorf("%d texts alone were taken", taken)
	}
}

// Each critical extension is known, or told.
func TestNoCriticalInSilence(t *testing.T) {
	s := source(17)
	told := 0
	for range 3000 {
		d := s.some(false).value()
		c, e := cert.Parse(form(d))
		if e != api.OK || len(d.List[0].List) < 8 {
			continue
		}
		want := []string{}
		for _, x := range d.List[0].List[7].List[0].List {
			id := dotted(x.List[0])
			if len(x.List) == 3 && !strings.Contains(" "+usageId+" "+dnsId+" "+caId+" "+constraintsId+" "+purposesId+" ", " "+id+" ") {
				want = append(want, id)
			}
		}
		told += len(want)
		if strings.Join(c.Unknown, " ") != strings.Join(want, " ") {
			t.Errorf("%v, not %v", c.Unknown, want)
		}
	}
	if told < 300 {
		t.Errorf("%d critical ones alone", told)
	}
}

// fullForm is a certificate that has something in each list.
func fullForm() string {
	p := with(critical(purposesId, seq(oid("1.2"), oid("1.3"))), ext(constraintsId, seq(of(0, "p", "q"), of(1, "x", "y"))), critical("1.9", null()), critical("1.8", null()), critical(dnsId, seq(host("a"), host("b"))))
	p.issuer, p.subject = seq(common("a"), common("b"), common("c")), seq(common("d"), common("e"), common("f"))
	return p.form()
}

// What is answered is new memory: to change one answer's lists, or to write into their spare room, changes no other list, nor another answer.
func TestAnswersShareNothing(t *testing.T) {
	want, e := modelParse(fullForm())
	if e != api.OK {
		t.Fatal(e)
	}
	names := func(c *api.Cert) []*[]api.Attr { return []*[]api.Attr{&c.Issuer, &c.Subject} }
	texts := func(c *api.Cert) []*[]string {
		return []*[]string{&c.Purposes, &c.Dns, &c.Permit, &c.Exclude, &c.Unknown}
	}
	for i := range 7 {
		first, second := parsed(t, fullForm()), parsed(t, fullForm())
		if i < 2 {
			l := *names(&first)[i]
			l = l[:cap(l)]
			for k := range l {
				l[k] = api.Attr{Type: "changed"}
			}
			*names(&first)[i] = *names(&want)[i]
		} else {
			l := *texts(&first)[i-2]
			l = l[:cap(l)]
			for k := range l {
				l[k] = "changed"
			}
			*texts(&first)[i-2] = *texts(&want)[i-2]
		}
		if !same(first, want) {
			t.Errorf("list %d shares room with another one: %+v", i, first)
		}
		if !same(second, want) || !same(parsed(t, fullForm()), want) {
			t.Errorf("list %d of two answers share room: %+v", i, second)
		}
	}
}

// The lists of certificates that are handed in stay as they are, and so does each answer.
func TestArgumentsStay(t *testing.T) {
	k := ecSigner(t, 1)
	p := with(critical("1.9", null()), ext(dnsId, seq(host("a"))))
	p.key = keyPart(t, k)
	f := issue(t, p, k)
	c, again := parsed(t, f), parsed(t, f)
	for range 3 {
		wantSigned(t, "by itself", c, c, true)
		wantSigned(t, "by nobody", c, api.Cert{}, false)
		wantNone(t, "another one", "\x30\x00", api.ErrCertForm)
		if !same(c, again) || !same(parsed(t, f), again) {
			t.Errorf("%+v, not %+v", c, again)
		}
	}
}

// At long arguments, too, each call ends.
func TestLongArguments(t *testing.T) {
	long := strings.Repeat("\x30", 1<<24)
	wantNone(t, "long", long, api.ErrDerLong)
	wantHost(t, long, false)
	wantHost(t, strings.Repeat("a.", 1<<23), false)
	c := api.Cert{Tbs: long, Sig: long, Alg: api.CertRsa, Kind: api.CertRsa, Rsa: api.RsaKey{N: long, E: long}, Ec: api.EcKey{X: long, Y: long}}
	wantSigned(t, "long by RSA", c, c, false)
	c.Rsa = someRsa()
	wantSigned(t, "long by RSA", c, c, false)
	c.Sig = strings.Repeat("\x30", 64)
	wantSigned(t, "long by RSA", c, c, false)
	c.Alg, c.Kind = api.CertEc, api.CertEc
	wantSigned(t, "long by ECDSA", c, c, false)
	c.Ec = ecdsa.Base()
	wantSigned(t, "long by ECDSA", c, c, false)
}

// The longest form is taken; one byte more is none.
func TestLongestForm(t *testing.T) {
	const some = 15000
	p := rightRsa()
	p.sig = bits(strings.Repeat("s", some))
	sig := strings.Repeat("s", some+api.MaxDer-len(p.form()))
	p.sig = bits(sig)
	f := p.form()
	if len(f) != api.MaxDer {
		t.Fatal(len(f))
	}
	if c := parsed(t, f); c.Sig != sig {
		t.Errorf("%d bytes, not %d", len(c.Sig), len(sig))
	}
	wantNone(t, "a byte more", f+nought, api.ErrDerLong)
	p.sig = bits(sig + "s")
	if _, e := der.Print(p.value()); e != api.ErrDerLong {
		t.Errorf("a longer signature: %d", e)
	}
}
