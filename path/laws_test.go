package path_test

// What the rules of all layers ask: memory, one answer, and that each call ends, where ways are many, too.

import (
	"reflect"
	"slices"
	"strings"
	"testing"
	"time"

	"ostiary/api"
	"ostiary/path"
)

// roomy is a list with something in the room behind it.
func roomy[T any](l []T, behind T) []T {
	out := slices.Concat(l, slices.Repeat([]T{behind}, 20))
	return out[:len(l)]
}

// Lists that are handed in stay as they are, and the room behind them.
func TestArgumentsStay(t *testing.T) {
	r := signers(t)
	l := r.forms(t, line()...)
	chain, anchors := roomy(l[:3], "behind"), roomy(l[3:], "behind, too")
	before, trusted := slices.Clone(chain[:cap(chain)]), slices.Clone(anchors[:cap(anchors)])
	for _, at := range []int{now, 1001} {
		path.Check(chain, anchors, at, purpose)
		path.Check(chain[:2], anchors, at, purpose)
		path.Check(chain, nil, at, purpose)
		if !slices.Equal(chain[:cap(chain)], before) || !slices.Equal(anchors[:cap(anchors)], trusted) {
			t.Fatal("a list was changed")
		}
	}
	full := func() []api.Cert {
		l := laid(t, r, "a", "b", "c", "d")
		for i := range l {
			c := &l[i]
			c.Dns, c.Permit, c.Exclude = roomy(list("b.x a.x"), "z"), roomy(list("y x"), "z"), roomy(list("c.x b.y"), "z")
			c.Purposes, c.Issuer, c.Subject = roomy(list("1.2.4 1.2.3"), "z"), roomy(c.Issuer, api.Attr{}), roomy(c.Subject, api.Attr{})
		}
		return roomy(l, api.Cert{Serial: "behind"})
	}
	certs, again := full(), full()
	for _, at := range []int{now, 1001} {
		path.Holds(certs, at, purpose)
		path.Holds(certs[:2], at, "1.2.4")
		path.Issued(certs[0], certs[1])
	}
	if !reflect.DeepEqual(certs[:cap(certs)], again[:cap(again)]) {
		t.Error("a list was changed")
	}
	for i := range certs {
		for _, x := range []struct{ got, want []string }{{certs[i].Dns, again[i].Dns}, {certs[i].Permit, again[i].Permit}, {certs[i].Exclude, again[i].Exclude}, {certs[i].Purposes, again[i].Purposes}} {
			if !slices.Equal(x.got[:cap(x.got)], x.want[:cap(x.want)]) {
				t.Error("room behind a list was changed")
			}
		}
	}
}

// What is answered is new memory: to change it, or to write into its spare room, changes no other list, nor another answer.
func TestAnswersShareNothing(t *testing.T) {
	r := signers(t)
	p := leafPlan("a,b,c", "d,e,f", ecOne, ecTwo)
	p.purposes, p.dns, p.permit, p.exclude = list("1.2.3 1.2.4 1.2.5"), list("a.x b.x c.x"), list("k l m"), list("n o p")
	chain, anchors := r.forms(t, p), r.forms(t, caPlan("d,e,f", "root", ecTwo, ecOne), p)
	want := parsed(t, chain[0])
	answer := func() api.Cert {
		c, e := path.Check(chain, anchors, now, purpose)
		if e != api.OK {
			t.Fatal(e)
		}
		return c
	}
	texts := func(c *api.Cert) []*[]string { return []*[]string{&c.Purposes, &c.Dns, &c.Permit, &c.Exclude} }
	for i := range 4 {
		first, second := answer(), answer()
		l := texts(&first)[i]
		for k := range (*l)[:cap(*l)] {
			(*l)[:cap(*l)][k] = "changed"
		}
		*l = *texts(&want)[i]
		if !same(first, want) || !same(second, want) || !same(answer(), want) {
			t.Errorf("list %d shares room", i)
		}
	}
	names := func(c *api.Cert) []*[]api.Attr { return []*[]api.Attr{&c.Issuer, &c.Subject} }
	for i := range 2 {
		first, second := answer(), answer()
		l := names(&first)[i]
		for k := range (*l)[:cap(*l)] {
			(*l)[:cap(*l)][k] = api.Attr{Type: "changed"}
		}
		*l = *names(&want)[i]
		if !same(first, want) || !same(second, want) || !same(answer(), want) {
			t.Errorf("name %d shares room", i)
		}
	}
}

// The same call is answered the same, whatever was asked in between.
func TestSameAnswers(t *testing.T) {
	r := signers(t)
	l := r.forms(t, line()...)
	p := line()
	p[1].unknown = list("1.9")
	other := r.forms(t, p...)
	for range 5 {
		wantTold(t, "a line", l[:3], l[3:], now, purpose, api.OK)
		wantTold(t, "later", l[:3], l[3:], 1001, purpose, api.ErrPathTime)
		wantTold(t, "another line", other[:3], l[3:], now, purpose, api.ErrPathOther)
		wantTold(t, "no anchors", l[:3], nil, now, purpose, api.ErrPathNone)
		wantTold(t, "no form", []string{"\x30\x00"}, nil, now, purpose, api.ErrCertForm)
	}
}

// soon: a call answers within a time that is ample for as many signatures as there are pairs, and too short for one for each path.
func soon(t *testing.T, what string, call func()) {
	t.Helper()
	done := make(chan struct{})
	go func() {
		defer close(done)
		call()
	}()
	select {
	case <-done:
	case <-time.After(time.Minute):
		t.Fatal(what + ": no answer yet")
	}
}

// crowd are so many certificates of one name and one key, each of which issued all others.
func crowd(t *testing.T, r *ring, n, serial int, change func(p *plan)) []string {
	var l []string
	for i := range n {
		p := caPlan("x", "x", ecOne, ecOne)
		p.serial = serial + i
		change(&p)
		l = append(l, r.form(t, p))
	}
	return l
}

// Of eight that all issued each other there are more than ten thousand beginnings, and sixteen times as many paths: who issued whom is asked once.
func TestCrowd(t *testing.T) {
	r := signers(t)
	var hosts, barred []string
	for i := range 16 {
		hosts = append(hosts, strings.Repeat("a", 20+i)+".x")
		barred = append(barred, strings.Repeat("b", 20+i)+".x")
	}
	chain := crowd(t, r, 8, 1, func(p *plan) { p.dns, p.exclude = hosts, barred })
	for _, x := range []struct {
		what   string
		change func(p *plan)
		at     int
		want   api.Errno
	}{
		{"anchors that are right", func(p *plan) {}, now, api.OK},
		{"anchors that are over", func(p *plan) { p.to = now - 1 }, now, api.ErrPathTime},
		{"all are over", func(p *plan) {}, 1001, api.ErrPathTime},
		{"anchors that bar a host", func(p *plan) { p.exclude = slices.Concat(barred[:15], hosts[15:]) }, now, api.ErrPathNames},
		{"anchors of other names", func(p *plan) { p.subject = "y" }, now, api.ErrPathNone},
		{"anchors that are none of their own", func(p *plan) { p.key = ecTwo }, now, api.ErrPathNone},
	} {
		anchors := crowd(t, r, 16, 20, x.change)
		soon(t, x.what, func() { wantTold(t, x.what, chain, anchors, x.at, purpose, x.want) })
	}
	soon(t, "no anchors", func() { wantTold(t, "no anchors", chain, nil, now, purpose, api.ErrPathNone) })
	// The only way out stands behind all others.
	last := caPlan("x", "y", ecOne, rsaOne)
	top := caPlan("y", "y", rsaOne, rsaOne)
	way := append(chain[:7:7], r.form(t, last))
	soon(t, "one way", func() { wantTold(t, "one way", way, r.forms(t, top), now, purpose, api.OK) })
	top.to = now - 1
	soon(t, "one way that is over", func() { wantTold(t, "one way that is over", way, r.forms(t, top), now, purpose, api.ErrPathTime) })
}

// At long arguments, too, each call ends.
func TestLongArguments(t *testing.T) {
	long := strings.Repeat("\x30", 1<<22)
	wantTold(t, "a long text", []string{long}, nil, now, "", api.ErrDerLong)
	wantTold(t, "many long texts", slices.Repeat([]string{long}, 9), []string{long}, now, long, api.ErrPathLong)
	r := signers(t)
	l := r.forms(t, line()...)
	wantTold(t, "a long purpose", l[:3], l[3:], now, long, api.OK)
	p := line()
	p[1].purposes = list("1.2.3")
	wantTold(t, "a long purpose that is none of them", []string{l[0], r.form(t, p[1]), l[2]}, l[3:], now, long, api.ErrPathUsage)
	c := api.Cert{Tbs: long, Sig: long, Issuer: slices.Repeat(attrs("a"), 1<<16), To: 10, PathLen: -1, Usage: -1}
	c.Subject = c.Issuer
	wantHolds(t, "long fields", []api.Cert{c, c}, 0, "", api.ErrPathSig)
	c.Dns, c.Exclude, c.Permit = slices.Repeat([]string{"a.b"}, 500), slices.Repeat([]string{"a"}, 500), append(slices.Repeat([]string{"c"}, 500), "b")
	wantHolds(t, "many names", []api.Cert{c}, 0, "", api.OK)
	two := laid(t, r, "a", "b")
	two[0].Dns, two[1].Exclude, two[1].Permit = c.Dns, c.Exclude, c.Permit
	wantHolds(t, "many names, of two", two, 0, "", api.OK)
	two[1].Permit = two[1].Permit[:500]
	wantHolds(t, "many names, none permitted", two, 0, "", api.ErrPathNames)
}
