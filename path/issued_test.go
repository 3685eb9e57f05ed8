package path_test

// P8.1: who issued whom, and which hosts lie within which.

import (
	"slices"
	"strings"
	"testing"

	"ostiary/api"
	"ostiary/path"
)

func wantIssued(t *testing.T, what string, c, by api.Cert, want bool) {
	t.Helper()
	if path.Issued(c, by) != want {
		t.Errorf("%s: %t", what, !want)
	}
}

func TestIssued(t *testing.T) {
	r := signers(t)
	for by := range signerKinds {
		for key := range signerKinds {
			l := r.certs(t, leafPlan("me", "ca,one", key, by), caPlan("ca,one", "root", by, ecOne))
			wantIssued(t, "by its issuer", l[0], l[1], true)
			wantIssued(t, "the other way round", l[1], l[0], false)
			wantIssued(t, "by itself", l[0], l[0], false)
			for other := range signerKinds {
				x := r.certs(t, caPlan("ca,one", "root", other, ecOne))[0]
				wantIssued(t, "by one of that name", l[0], x, other == by)
			}
		}
	}
}

func TestIssuedByItself(t *testing.T) {
	r := signers(t)
	for k := range signerKinds {
		c := r.certs(t, caPlan("ca", "ca", k, k))[0]
		wantIssued(t, "by itself", c, c, true)
		c = r.certs(t, caPlan("ca", "ca", k, (k+1)%signerKinds))[0]
		wantIssued(t, "of its own name, by another key", c, c, false)
	}
}

// The whole name must be the same, attribute by attribute; one without attributes issues nothing.
func TestIssuedNames(t *testing.T) {
	r := signers(t)
	for _, k := range []int{ecOne, rsaOne} {
		none := r.certs(t, leafPlan("me", "", k, k), caPlan("", "", k, k))
		wantIssued(t, "without names", none[0], none[1], false)
		wantIssued(t, "without names, by itself", none[1], none[1], false)
		c := r.certs(t, leafPlan("me", "a,b", k, k))[0]
		by := r.certs(t, caPlan("a,b", "root", k, k))[0]
		a, b := by.Subject[0], by.Subject[1]
		for _, x := range []struct {
			what string
			name []api.Attr
			want bool
		}{
			{"the same", []api.Attr{a, b}, true},
			{"the other order", []api.Attr{b, a}, false},
			{"the first alone", []api.Attr{a}, false},
			{"the second alone", []api.Attr{b}, false},
			{"one more", []api.Attr{a, b, b}, false},
			{"twice the first", []api.Attr{a, a}, false},
			{"nothing", nil, false},
			{"another type", []api.Attr{a, {Type: "2.5.4.4", Value: b.Value}}, false},
			{"another type first", []api.Attr{{Type: "2.5.4.4", Value: a.Value}, b}, false},
			{"another value", []api.Attr{a, {Type: b.Type, Value: "c"}}, false},
			{"great letters", []api.Attr{a, {Type: b.Type, Value: "B"}}, false},
			{"a blank behind", []api.Attr{a, {Type: b.Type, Value: "b "}}, false},
			{"no value", []api.Attr{a, {Type: b.Type}}, false},
		} {
			y := by
			y.Subject = x.name
			wantIssued(t, x.what, c, y, x.want)
			z := c
			z.Issuer = x.name
			wantIssued(t, x.what+", of the issuer", z, by, x.want)
			z.Issuer, y.Subject = slices.Clone(x.name), slices.Clone(x.name)
			wantIssued(t, x.what+", of both", z, y, x.name != nil)
		}
	}
}

func TestIssuedSpoilt(t *testing.T) {
	r := signers(t)
	for _, k := range []int{ecOne, rsaOne} {
		l := r.certs(t, leafPlan("me", "ca", k, k), caPlan("ca", "root", k, k))
		p := leafPlan("me", "ca", k, k)
		p.spoilt = true
		wantIssued(t, "another digit", r.certs(t, p)[0], l[1], false)
		x := l[0]
		x.Tbs += "\x00"
		wantIssued(t, "another TBS", x, l[1], false)
		x = l[0]
		x.Sig = ""
		wantIssued(t, "no signature", x, l[1], false)
		x = l[0]
		x.Alg = 1 - x.Alg
		wantIssued(t, "another algorithm", x, l[1], false)
	}
}

// Whether a certificate may issue is not asked here.
func TestIssuedOtherFields(t *testing.T) {
	r := signers(t)
	p, q := leafPlan("me", "ca", ecTwo, ecOne), leafPlan("ca", "root", ecOne, ecOne)
	p.to, q.from, q.to, q.usage, q.unknown, q.exclude, p.dns = 0, 5, 5, 1, []string{"1.9"}, []string{"a"}, []string{"a"}
	l := r.certs(t, p, q)
	wantIssued(t, "by one that may not issue", l[0], l[1], true)
	c, by := l[0], l[1]
	bare := api.Cert{Issuer: c.Issuer, Tbs: c.Tbs, Alg: c.Alg, Sig: c.Sig}
	wantIssued(t, "the fields that count alone", bare, api.Cert{Subject: by.Subject, Kind: by.Kind, Ec: by.Ec}, true)
	wantIssued(t, "no fields", api.Cert{}, api.Cert{}, false)
	wantIssued(t, "no fields, by one", api.Cert{}, by, false)
	wantIssued(t, "one by no fields", c, api.Cert{}, false)
	wantIssued(t, "a name alone", api.Cert{Issuer: attrs("a")}, api.Cert{Subject: attrs("a")}, false)
}

func TestWithin(t *testing.T) {
	for _, x := range []struct {
		host, of string
		want     bool
	}{
		{"a.b", "b", true}, {"b", "b", true}, {"ab", "b", false}, {"b", "a.b", false},
		{"c.a.b", "a.b", true}, {"c.a.b", "b", true}, {"ca.b", "a.b", false}, {"a.b", "a", false}, {"a.b", "a.b", true}, {"a.b.c", "b", false}, {"a.b.c", "a.b", false},
		{"", "", true}, {"a", "", false}, {"a.", "", true}, {".", "", true}, {"", "a", false}, {".b", "b", true}, {"b", ".b", false}, {"a.b", ".b", false}, {"a..b", ".b", true}, {".b", ".b", true},
		{"A.B", "b", false}, {"B", "b", false}, {"b.", "b", false}, {"b", "b.", false}, {"a.b.", "b.", true}, {"a-b", "b", false}, {"a\x00.b", "b", true}, {"a.\xff", "\xff", true}, {"xyb", "yb", false},
		{strings.Repeat("a.", 1<<20) + "b", "b", true}, {strings.Repeat("a", 1<<20) + "b", "b", false}, {"b", strings.Repeat("a.", 1<<20) + "b", false},
	} {
		if got := path.Within(x.host, x.of); got != x.want {
			t.Errorf("%.50q within %.50q: %t", x.host, x.of, got)
		}
	}
}

// All short texts of two letters and the dot, each within each.
func TestWithinShort(t *testing.T) {
	texts := []string{""}
	for from := 0; len(texts[len(texts)-1]) < 4; {
		to := len(texts)
		for _, s := range texts[from:to] {
			texts = append(texts, s+"a", s+"b", s+".")
		}
		from = to
	}
	taken := 0
	for _, host := range texts {
		for _, of := range texts {
			want := modelWithin(host, of)
			if want {
				taken++
			}
			if got := path.Within(host, of); got != want {
				t.Errorf("%q within %q: %t", host, of, got)
			}
		}
	}
	if len(texts) < 100 || taken < 200 {
		t.Errorf("%d texts, %d within", len(texts), taken)
	}
}
