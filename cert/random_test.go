package cert_test

// Certificates of all kinds, right ones and such as are spoilt at some place, against the model.

import (
	"crypto/ecdh"
	"strconv"
	"strings"
	"testing"

	"ostiary/api"
	"ostiary/cert"
	"ostiary/der"
)

// source tells the same numbers on every run.
type source uint64

func (s *source) below(n int) int {
	*s = *s*6364136223846793005 + 1442695040888963407
	return int(uint64(*s)>>33) % n
}

func (s *source) bytes(n int) string {
	b := make([]byte, n)
	for i := range b {
		b[i] = byte(s.below(256))
	}
	return string(b)
}

func (s *source) name() api.Der {
	d := seq()
	for range s.below(4) {
		tag := []int{api.DerPrintable, api.DerUtf8, api.DerIa5}[s.below(3)]
		d.List = append(d.List, attr("2.5.4."+strconv.Itoa(s.below(60)), prim(tag, "some name"[:1+s.below(9)])))
	}
	return d
}

func (s *source) host() string {
	return []string{"a", "b.c", "d-e.f", "0", "x.y.z"}[s.below(5)]
}

// known is a value of a known extension.
func (s *source) known(id string) api.Der {
	switch id {
	case usageId:
		return usage("00000000"[s.below(9):] + "1")
	case dnsId:
		d := seq(host(s.host()))
		for range s.below(3) {
			d.List = append(d.List, host(s.host()), plain(s.below(2), "x"), context(4, seq()))
		}
		return d
	case caId:
		return []api.Der{seq(), seq(yes()), seq(yes(), number(string([]byte{byte(s.below(128))})))}[s.below(3)]
	case constraintsId:
		return []api.Der{seq(of(0, s.host(), s.host())), seq(of(1, s.host())), seq(of(0, s.host()), of(1, s.host()))}[s.below(3)]
	}
	return seq(many(1+s.below(3), oid("1.3."+strconv.Itoa(s.below(9))))...)
}

// spoilt is d with a change in it or in one of its parts.
func (s *source) spoilt(d api.Der) api.Der {
	if n := len(d.List); n > 0 && s.below(6) != 0 {
		l := append([]api.Der{}, d.List...)
		i := s.below(n)
		switch s.below(9) {
		case 0:
			l = append(l[:i], l[i+1:]...)
		case 1:
			l = append(l, l[i])
		case 2:
			k := s.below(n)
			l[i], l[k] = l[k], l[i]
		default:
			l[i] = s.spoilt(l[i])
		}
		d.List = l
		return d
	}
	switch s.below(6) {
	case 0:
		return s.odd()
	case 1:
		d.Tag = []int{d.Tag ^ 1, api.DerUtf8, api.DerOctets, api.DerSeq, api.DerSet, api.DerOid, 0, 1, 2, 3}[s.below(10)]
	case 2:
		d.Class = s.below(4)
	case 3:
		d.Bytes += []string{"a", nought, "A", full}[s.below(4)]
	}
	if d.Bytes == "" {
		return d
	}
	b := []byte(d.Bytes)
	switch i := s.below(len(b)); s.below(4) {
	case 0:
		b = b[:i]
	case 1:
		b[i] = byte(s.below(256))
	case 2:
		b[i] ^= 1 << s.below(8)
	}
	d.Bytes = string(b)
	return d
}

// odd is some value, often one that stands elsewhere in certificates.
func (s *source) odd() api.Der {
	return []api.Der{null(), seq(), yes(), no(), number("\x02"), bits(""), octets(""), oid("1.2"), context(0), context(1, seq(host("a"))), host("a"), plain(1, "a"), utc("700101000001Z"), long("20000101000000Z"), long("19490101000000Z"), seq(seq()), set(null()), printable("a"), algEc(), algRsa(), prim(api.DerUtf8, "é")}[s.below(21)]
}

// extension is one, spoilt, if it shall be: in its value, or about it.
func (s *source) extension(id string, spoil bool) api.Der {
	v := s.known(id)
	if spoil && s.below(4) != 0 {
		v, spoil = s.spoilt(v), false
	}
	value, e := der.Print(v)
	if e != api.OK {
		value = s.bytes(5)
	}
	x := seq(oid(id), octets(value))
	if s.below(2) == 0 {
		x = seq(oid(id), yes(), octets(value))
	}
	if spoil {
		return s.spoilt(x)
	}
	return x
}

// key is one of either kind, or, spoilt, some bits in its place.
func (s *source) key(spoil bool) api.Der {
	k, err := ecdh.P256().NewPrivateKey([]byte(nought + s.bytes(31)))
	if err != nil {
		panic(err)
	}
	point := string(k.PublicKey().Bytes())
	d := keyOfEc(api.EcKey{X: point[1:33], Y: point[33:]})
	if s.below(2) == 0 {
		numbers := seq(intOf(full+s.bytes(63+s.below(60))+"\x01"), intOf("\x01\x00\x01"))
		if spoil {
			numbers = s.spoilt(numbers)
		}
		if s, e := der.Print(numbers); e == api.OK {
			d = seq(seq(oid(rsaKind), null()), bits(s))
		}
	}
	if spoil && s.below(2) == 0 {
		return s.spoilt(d)
	}
	return d
}

// some are parts that are, spoilt, wrong at about one place.
func (s *source) some(spoil bool) *parts {
	p := right()
	at := -1
	if spoil {
		at = s.below(5)
	}
	if s.below(2) == 0 {
		p = rightRsa()
		p.sig = bits(s.bytes(s.below(70)))
	} else {
		numbers := seq(intOf(s.bytes(s.below(33))), intOf(s.bytes(s.below(33))))
		if at == 0 {
			numbers = s.spoilt(numbers)
		}
		if f, e := der.Print(numbers); e == api.OK {
			p.sig = bits(f)
		}
	}
	p.serial = intOf("\x01" + s.bytes(s.below(19)))
	p.issuer, p.subject = s.name(), s.name()
	p.times = []api.Der{seq(utc("991231235959Z"), utc("491231235959Z")), seq(long("18000101000000Z"), long("20500101000000Z")), p.times}[s.below(3)]
	p.key = s.key(at == 1)
	switch at {
	case 3:
		p.issuer = s.spoilt(p.issuer)
	case 4:
		p.times = s.spoilt(p.times)
	}
	ids := []string{usageId, "1.9", dnsId, caId, "2.5.29.14", constraintsId, purposesId}
	from := s.below(len(ids))
	n := s.below(5)
	for i := range n {
		if at == 2 && i > 0 && s.below(5) == 0 {
			from-- // one comes twice
		}
		p.exts = append(p.exts, s.extension(ids[(from+i+len(ids))%len(ids)], at == 2 && i == n/2))
	}
	return p
}

// wantModel: what Parse tells is what the model tells; is it OK?
func wantModel(t *testing.T, s string) bool {
	t.Helper()
	want, e := modelParse(s)
	c, f := cert.Parse(s)
	if e != f || !same(c, want) {
		t.Errorf("Parse(%x): %+v, %d, not %+v, %d", s, c, f, want, e)
	}
	return e == api.OK
}

func TestAgainstTheModel(t *testing.T) {
	s := source(7)
	taken, refused := 0, map[api.Errno]int{}
	for i := range 40000 {
		d := s.some(i%2 == 1).value()
		if i%4 == 3 {
			d = s.spoilt(d)
		}
		f, e := der.Print(d)
		if e != api.OK {
			continue
		}
		if wantModel(t, f) {
			taken++
			continue
		}
		_, e = cert.Parse(f)
		refused[e]++
	}
	for e := api.ErrCertForm; e <= api.ErrCertTwice; e++ {
		if refused[e] < 100 {
			t.Errorf("error %d came %d times alone", e, refused[e])
		}
	}
	if taken < 10000 {
		t.Errorf("%d were taken", taken)
	}
}

// Each byte of a certificate is changed.
func TestChangedBytes(t *testing.T) {
	all := []string{
		with(critical(caId, seq(yes(), number("\x03"))), critical(usageId, usage("100001")), ext(dnsId, seq(host("a.b"), plain(1, "x"))), ext(constraintsId, seq(of(0, "a"), of(1, "b")))).form(),
		rightRsa().form(),
	}
	for _, f := range all {
		for i := range len(f) {
			for c := range 256 {
				wantModel(t, f[:i]+string([]byte{byte(c)})+f[i+1:])
			}
			wantModel(t, f[:i])
			wantModel(t, f[:i]+f[i+1:])
			wantModel(t, f[:i]+strings.Repeat(f[i:i+1], 2)+f[i+1:])
		}
	}
}
