package path_test

// Paths that don't fork are taken as the library takes them, as far as both ask the same.

import (
	"crypto/x509"
	"slices"
	"testing"
	"time"

	"ostiary/api"
	"ostiary/path"
)

// byLibrary: does the library take a leaf for clients, by these?
func byLibrary(t *testing.T, chain, anchors []string, at int) bool {
	t.Helper()
	read := func(s string) *x509.Certificate {
		c, err := x509.ParseCertificate([]byte(s))
		if err != nil {
			t.Fatal(err)
		}
		return c
	}
	o := x509.VerifyOptions{Roots: x509.NewCertPool(), Intermediates: x509.NewCertPool(), CurrentTime: time.Unix(int64(at), 0), KeyUsages: []x509.ExtKeyUsage{x509.ExtKeyUsageClientAuth}}
	for _, s := range anchors {
		o.Roots.AddCert(read(s))
	}
	for _, s := range chain[1:] {
		o.Intermediates.AddCert(read(s))
	}
	_, err := read(chain[0]).Verify(o)
	return err == nil
}

// linePlans are a line of certificates, none of which is self-issued but the anchor, perhaps with something wrong.
func (s *source) linePlans() []plan {
	const clients, servers = "1.3.6.1.5.5.7.3.2", "1.3.6.1.5.5.7.3.1"
	l := laidPlans(straight(2 + s.below(4))...)
	for i := range l {
		l[i].from, l[i].to = one(s, 0, 0, 0, 0, 0, 0, 0, 501), one(s, 1000, 1000, 1000, 1000, 1000, 499, 500)
		l[i].purposes = one(s, nil, nil, list(clients), list(servers+" "+clients), list(every), list(servers))
		if i == 0 {
			l[i].dns = one(s, nil, list("a.x"), list("b.y x"), list("x.x"))
			continue
		}
		l[i].ca = s.below(12) > 0
		l[i].usage = one(s, -1, 32, 32, 97, 511, 64)
		l[i].pathLen = one(s, -1, -1, -1, 0, 1, 2, 3)
		l[i].permit, l[i].exclude = one(s, nil, nil, nil, list("x"), list("x y")), one(s, nil, nil, nil, list("a.x"), list("y"))
		l[i].spoilt = i+1 < len(l) && s.below(20) == 0
		if s.below(20) == 0 {
			l[i].unknown = list("1.9")
		}
	}
	return l
}

func TestAsLibrary(t *testing.T) {
	r := signers(t)
	s := source(77)
	taken := 0
	for range 1500 {
		p := s.linePlans()
		l := r.forms(t, p...)
		chain, anchors := slices.Clone(l[:len(l)-1]), l[len(l)-1:]
		s.mix(chain[1:])
		want := byLibrary(t, chain, anchors, now)
		c, e := path.Check(chain, anchors, now, "1.3.6.1.5.5.7.3.2")
		if (e == api.OK) != want {
			t.Errorf("%+v: %d, by the library %t", p, e, want)
		}
		if e == api.OK {
			taken++
			if !same(c, parsed(t, chain[0])) {
				t.Errorf("%+v", c)
			}
		}
	}
	if taken < 100 || taken > 1400 {
		t.Errorf("%d of 1500 taken", taken)
	}
}
