package path_test

// P8.2: which way is looked for, in which order, and what is told.

import (
	"slices"
	"strings"
	"testing"

	"ostiary/api"
	"ostiary/path"
)

// line is a leaf, two above it, and an anchor, as plans.
func line() []plan { return laidPlans("leaf", "low", "high", "top") }

func TestCheckNumbers(t *testing.T) {
	r := signers(t)
	l := r.forms(t, line()...)
	top := l[3:]
	wantTold(t, "no chain", nil, nil, 0, "", api.ErrPathNone)
	wantTold(t, "an empty chain", []string{}, top, now, "", api.ErrPathNone)
	wantTold(t, "no chain, too many anchors", nil, make([]string, 17), now, "", api.ErrPathNone)
	wantTold(t, "nine texts", make([]string, 9), nil, 0, "", api.ErrPathLong)
	wantTold(t, "many texts", make([]string, 1000), make([]string, 1000), 0, "", api.ErrPathLong)
	wantTold(t, "seventeen anchors", []string{""}, make([]string, 17), 0, "", api.ErrPathLong)
	wantTold(t, "an empty text", []string{""}, nil, 0, "", api.ErrDerEnd)
	wantTold(t, "eight texts", make([]string, 8), make([]string, 16), 0, "", api.ErrDerEnd)
	chain := slices.Repeat(l[:1], 5)
	chain = append(chain, l[:3]...)
	wantTold(t, "eight certificates", chain, slices.Repeat(top, 16), now, "", api.OK)
	wantTold(t, "nine certificates", append(chain, l[1]), slices.Repeat(top, 16), now, "", api.ErrPathLong)
	wantTold(t, "sixteen anchors and one", chain, slices.Repeat(top, 17), now, "", api.ErrPathLong)
	wantTold(t, "no anchors", l[:3], nil, now, "", api.ErrPathNone)
	wantTold(t, "no anchors, but in the chain", l, []string{}, now, "", api.ErrPathNone)
}

// badForms are texts that are refused, each by another error.
func badForms() []string {
	return []string{"", "\x05\x00", "\x30\x80", "\x1f\x00", "\x30\x00\x00", strings.Repeat("x", api.MaxDer+1)}
}

func badErrors() []api.Errno {
	return []api.Errno{api.ErrDerEnd, api.ErrCertForm, api.ErrDerForm, api.ErrDerTag, api.ErrDerMore, api.ErrDerLong}
}

// Each of the chain is read, then each anchor: the first one that is none decides, whatever way there would be.
func TestCheckForms(t *testing.T) {
	r := signers(t)
	l := r.forms(t, line()...)
	chain, anchors := l[:3], []string{l[0], l[3]}
	bad, errs := badForms(), badErrors()
	with := func(l []string, i int, s string) []string {
		l = slices.Clone(l)
		l[i] = s
		return l
	}
	for a := range bad {
		for i := range chain {
			wantTold(t, "one of the chain", with(chain, i, bad[a]), anchors, now, "", errs[a])
			for b := range bad {
				for k := range chain {
					if i != k {
						want := errs[a]
						if k < i {
							want = errs[b]
						}
						wantTold(t, "two of the chain", with(with(chain, i, bad[a]), k, bad[b]), anchors, now, "", want)
					}
				}
				for k := range anchors {
					wantTold(t, "one of the chain, and an anchor", with(chain, i, bad[a]), with(anchors, k, bad[b]), now, "", errs[a])
				}
			}
		}
		for i := range anchors {
			wantTold(t, "an anchor", chain, with(anchors, i, bad[a]), now, "", errs[a])
		}
		for b := range bad {
			wantTold(t, "two anchors", chain, []string{bad[a], bad[b]}, now, "", errs[a])
		}
	}
	// All of them are read, those too that stand on no way.
	wantTold(t, "beside an anchor that is the leaf", []string{l[0], "\x30\x00"}, l[:1], now, "", api.ErrCertForm)
	wantTold(t, "an anchor beside one that is the leaf", l[:1], []string{l[0], "\x30\x00"}, now, "", api.ErrCertForm)
	p := line()[0]
	p.to = now - 1
	wantTold(t, "beside a leaf that is over", []string{r.form(t, p), "\x30\x00"}, anchors, now, "", api.ErrCertForm)
}

// A certificate's own parts, too, are asked for while it is read.
func TestCheckParsed(t *testing.T) {
	r := signers(t)
	l := r.forms(t, line()...)
	for what, x := range map[string]struct {
		change func(p *plan)
		want   api.Errno
	}{
		"a host":      {func(p *plan) { p.dns = list("A") }, api.ErrCertExt},
		"twice":       {func(p *plan) { p.unknown = list("1.9 1.9") }, api.ErrCertTwice},
		"turned time": {func(p *plan) { p.from = p.to + 1 }, api.ErrCertTime},
		"many names":  {func(p *plan) { p.subject = "a,b,c,d,e,f,g,h,i" }, api.ErrCertName},
	} {
		p := line()[1]
		x.change(&p)
		wantTold(t, what, []string{l[0], r.form(t, p), l[2]}, l[3:], now, "", x.want)
		wantTold(t, what+", of an anchor", l[:3], []string{l[3], r.form(t, p)}, now, "", x.want)
	}
}

func TestCheckLine(t *testing.T) {
	r := signers(t)
	l := r.forms(t, line()...)
	for _, rest := range orders(l[1:3]) {
		chain := slices.Concat(l[:1], rest)
		wantTold(t, "a line", chain, l[3:], now, "", api.OK)
		wantTold(t, "and the anchor in the chain", append(chain, l[3]), l[3:], now, "", api.OK)
		wantTold(t, "by one from above", chain, l[2:3], now, "", api.OK)
		wantTold(t, "by the next one", chain, l[1:2], now, "", api.OK)
		wantTold(t, "by itself", chain, l[:1], now, "", api.OK)
		wantTold(t, "by all", chain, l, now, "", api.OK)
		wantTold(t, "too early", chain, l[3:], -1, "", api.ErrPathTime)
		wantTold(t, "too late", chain, l[3:], 1001, "", api.ErrPathTime)
	}
	wantTold(t, "the leaf alone", l[:1], l[3:], now, "", api.ErrPathNone)
	wantTold(t, "without the low one", []string{l[0], l[2]}, l[3:], now, "", api.ErrPathNone)
	wantTold(t, "without the high one", l[:2], l[3:], now, "", api.ErrPathNone)
	wantTold(t, "with the leaf behind", []string{l[1], l[0], l[2]}, l[3:], now, "", api.OK)
	wantTold(t, "without a leaf", l[1:3], l[3:], now, "", api.OK)
	wantTold(t, "the anchor alone", l[3:], l[3:], now, "", api.OK)
	wantTold(t, "the anchor by another one", l[3:], l[2:3], now, "", api.ErrPathNone)
	for i := range 3 {
		p := line()
		p[i].spoilt = true
		wantTold(t, "a spoilt signature", r.forms(t, p[:3]...), l[3:], now, "", api.ErrPathNone)
	}
	p := line()
	p[3].spoilt = true
	wantTold(t, "an anchor's spoilt signature", l[:3], r.forms(t, p[3]), now, "", api.OK)
}

// The longest path: eight that are presented, and an anchor.
func TestCheckLongest(t *testing.T) {
	r := signers(t)
	l := r.forms(t, laidPlans(straight(9)...)...)
	wantTold(t, "eight and one", l[:8], l[8:], now, "", api.OK)
	back := slices.Concat(l[:1], l[1:8])
	slices.Reverse(back[1:])
	wantTold(t, "from the top on", back, l[8:], now, "", api.OK)
	p := laidPlans(straight(9)...)
	p[8].pathLen = 6
	wantTold(t, "one too many", l[:8], r.forms(t, p[8]), now, "", api.ErrPathDepth)
	p[8].pathLen = 7
	wantTold(t, "as many as may be", l[:8], r.forms(t, p[8]), now, "", api.OK)
}

// What is wrong with one above the leaf, on the only path, is told, wherever it was presented.
func TestCheckSix(t *testing.T) {
	r := signers(t)
	for i := 1; i < 4; i++ {
		for _, x := range []struct {
			change func(p *plan)
			want   api.Errno
		}{
			{func(p *plan) { p.to = now - 1 }, api.ErrPathTime},
			{func(p *plan) { p.from = now + 1 }, api.ErrPathTime},
			{func(p *plan) { p.ca = false }, api.ErrPathCa},
			{func(p *plan) { p.usage = 1 }, api.ErrPathCa},
			{func(p *plan) { p.pathLen = i - 2 }, api.ErrPathDepth},
			{func(p *plan) { p.permit = list("y") }, api.ErrPathNames},
			{func(p *plan) { p.exclude = list("x") }, api.ErrPathNames},
			{func(p *plan) { p.purposes = list("1.2.4") }, api.ErrPathUsage},
			{func(p *plan) { p.unknown = list("1.9") }, api.ErrPathOther},
		} {
			p := line()
			p[0].dns = list("a.x")
			x.change(&p[i])
			if x.want == api.ErrPathDepth && i == 1 {
				x.want = api.OK
			}
			l := r.forms(t, p...)
			wantTold(t, "the chain in order", l[:3], l[3:], now, purpose, x.want)
			wantTold(t, "the chain in another order", []string{l[0], l[2], l[1]}, l[3:], now, purpose, x.want)
			wantTold(t, "without a purpose", l[:3], l[3:], now, "", map[bool]api.Errno{true: api.OK, false: x.want}[x.want == api.ErrPathUsage])
		}
	}
	p := line()
	p[0].usage = 32
	l := r.forms(t, p...)
	wantTold(t, "the leaf's usage", l[:3], l[3:], now, "", api.ErrPathUsage)
	wantTold(t, "the leaf alone", l[:3], l[:1], now, "", api.ErrPathUsage)
}

// wrongPlans are changes that make just one of the six so of one that issues, if the leaf has the host a.x and purpose is asked for; wrongErrors are what they are told by.
func wrongPlans() []func(p *plan) {
	return []func(p *plan){
		func(p *plan) { p.to = now - 1 },
		func(p *plan) { p.ca = false },
		func(p *plan) { p.exclude = list("x") },
		func(p *plan) { p.purposes = list("1.2.4") },
		func(p *plan) { p.unknown = list("1.9") },
	}
}

func wrongErrors() []api.Errno {
	return []api.Errno{api.ErrPathTime, api.ErrPathCa, api.ErrPathNames, api.ErrPathUsage, api.ErrPathOther}
}

// fork is a leaf with a host, issued by x alone.
func fork(r *ring, t *testing.T) string {
	p := leafPlan("leaf", "x", rsaOne, ecOne)
	p.dns = list("a.x")
	return r.form(t, p)
}

// upper is one named x of the key by which fork is signed, issued by another one, and wrong in some way; below 0 in none.
func upper(r *ring, t *testing.T, serial, wrong int, issuer string, by int) string {
	p := caPlan("x", issuer, ecOne, by)
	p.serial = serial
	if wrong >= 0 {
		wrongPlans()[wrong](&p)
	}
	return r.form(t, p)
}

// Of paths none of which holds the first one's error is told, by the anchors' order; one that holds is enough.
func TestCheckAnchorsOrder(t *testing.T) {
	r := signers(t)
	leaf, errs := fork(r, t), wrongErrors()
	good := upper(r, t, 90, -1, "x", ecOne)
	for a := range errs {
		for b := range errs {
			first, second := upper(r, t, 1, a, "x", ecOne), upper(r, t, 2, b, "y", ecTwo)
			wantTold(t, "two anchors", []string{leaf}, []string{first, second}, now, purpose, errs[a])
			wantTold(t, "two anchors, turned", []string{leaf}, []string{second, first}, now, purpose, errs[b])
			for _, l := range orders([]string{first, second, good}) {
				wantTold(t, "one that holds among them", []string{leaf}, l, now, purpose, api.OK)
			}
		}
	}
}

// Anchors are asked ahead of the chain.
func TestCheckAnchorsFirst(t *testing.T) {
	r := signers(t)
	leaf, errs := fork(r, t), wrongErrors()
	top := r.form(t, caPlan("top", "top", ecTwo, ecTwo))
	for a := range errs {
		for b := range errs {
			anchor, presented := upper(r, t, 1, a, "top", ecTwo), upper(r, t, 2, b, "top", ecTwo)
			for _, anchors := range [][]string{{top, anchor}, {anchor, top}} {
				wantTold(t, "the anchor first", []string{leaf, presented}, anchors, now, purpose, errs[a])
				wantTold(t, "an anchor that is presented too", []string{leaf, presented, anchor}, anchors, now, purpose, errs[a])
				wantTold(t, "one that is presented holds", []string{leaf, presented, upper(r, t, 3, -1, "top", ecTwo)}, anchors, now, purpose, api.OK)
			}
			wantTold(t, "the presented one alone", []string{leaf, presented}, []string{top}, now, purpose, errs[b])
		}
	}
}

// Those of the chain are taken up in order.
func TestCheckChainOrder(t *testing.T) {
	r := signers(t)
	leaf, errs := fork(r, t), wrongErrors()
	top := r.form(t, caPlan("top", "top", ecTwo, ecTwo))
	good := upper(r, t, 90, -1, "top", ecTwo)
	for a := range errs {
		for b := range errs {
			first, second := upper(r, t, 1, a, "top", ecTwo), upper(r, t, 2, b, "top", ecTwo)
			wantTold(t, "two ways", []string{leaf, first, second}, []string{top}, now, purpose, errs[a])
			wantTold(t, "two ways, turned", []string{leaf, second, first}, []string{top}, now, purpose, errs[b])
			for _, l := range orders([]string{first, second, good}) {
				wantTold(t, "one that holds among them", slices.Concat([]string{leaf}, l), []string{top}, now, purpose, api.OK)
			}
		}
	}
}

// A way is gone to its end ahead of the next one, even if that is shorter.
func TestCheckDepthFirst(t *testing.T) {
	r := signers(t)
	leaf, errs := fork(r, t), wrongErrors()
	top := r.form(t, caPlan("top", "top", ecTwo, ecTwo))
	for a := range errs {
		for b := range errs {
			far := caPlan("far", "top", rsaTwo, ecTwo)
			wrongPlans()[a](&far)
			long, short := upper(r, t, 1, -1, "far", rsaTwo), upper(r, t, 2, b, "top", ecTwo)
			further := r.form(t, far)
			for _, l := range orders([]string{long, short, further}) {
				want := errs[a]
				if slices.Index(l, short) < slices.Index(l, long) {
					want = errs[b]
				}
				wantTold(t, "a long way and a short one", slices.Concat([]string{leaf}, l), []string{top}, now, purpose, want)
				wantTold(t, "and one that holds", slices.Concat([]string{leaf}, l, []string{upper(r, t, 3, -1, "top", ecTwo)}), []string{top}, now, purpose, api.OK)
			}
		}
	}
}

// Of a path its own first error is told: by the six, not by the places.
func TestCheckOnePath(t *testing.T) {
	r := signers(t)
	errs := wrongErrors()
	for a := range errs {
		for b := range errs {
			p := line()
			p[0].dns = list("a.x")
			wrongPlans()[a](&p[1])
			wrongPlans()[b](&p[3])
			l := r.forms(t, p...)
			wantTold(t, "two wrongs", l[:3], l[3:], now, purpose, min(errs[a], errs[b]))
		}
	}
}

// The leaf alone comes first, if an anchor has just its bytes.
func TestCheckLeafAlone(t *testing.T) {
	r := signers(t)
	errs := wrongErrors()
	top := r.form(t, caPlan("top", "top", ecTwo, ecTwo))
	for a := range errs {
		if errs[a] == api.ErrPathCa || errs[a] == api.ErrPathNames {
			continue
		}
		for b := range errs {
			p := leafPlan("leaf", "x", rsaOne, ecOne)
			p.dns = list("a.x")
			wrongPlans()[a](&p)
			leaf := r.form(t, p)
			over := upper(r, t, 1, b, "x", ecOne)
			for _, anchors := range orders([]string{leaf, over, top}) {
				wantTold(t, "a wrong leaf", []string{leaf}, anchors, now, purpose, errs[a])
			}
			wantTold(t, "a wrong leaf, no anchor", []string{leaf}, []string{over, top}, now, purpose, min(errs[a], errs[b]))
		}
	}
	leaf := fork(r, t)
	for _, anchors := range orders([]string{leaf, top, upper(r, t, 1, 0, "x", ecOne)}) {
		wantTold(t, "a leaf that is an anchor", []string{leaf}, anchors, now, purpose, api.OK)
		wantTold(t, "with others", []string{leaf, top}, anchors, now, purpose, api.OK)
		wantTold(t, "an anchor behind the leaf", []string{upper(r, t, 2, -1, "z", ecTwo), leaf}, anchors, now, purpose, api.ErrPathNone)
	}
}

// An anchor that says the same but has other bytes is not the leaf.
func TestCheckLeafByBytes(t *testing.T) {
	r := signers(t)
	p := leafPlan("leaf", "x", rsaOne, ecOne)
	leaf := r.form(t, p)
	p.spoilt = true
	wantTold(t, "another signature", []string{leaf}, r.forms(t, p), now, "", api.ErrPathNone)
	p.spoilt, p.serial = false, 2
	wantTold(t, "another serial", []string{leaf}, r.forms(t, p), now, "", api.ErrPathNone)
	wantTold(t, "the same", []string{leaf}, []string{leaf}, now, "", api.OK)
	// A leaf that issued itself is issued by that one: then both are asked.
	q := leafPlan("me", "me", ecOne, ecOne)
	self := r.form(t, q)
	q.serial = 2
	wantTold(t, "by another one of its name and key", []string{self}, r.forms(t, q), now, "", api.ErrPathCa)
	q.ca = true
	wantTold(t, "by a CA of its name and key", []string{self}, r.forms(t, q), now, "", api.OK)
	wantTold(t, "by itself", []string{self}, []string{self}, now, "", api.OK)
}

// None stands in a path twice, but two places are two certificates, even with the same bytes.
func TestCheckPlaces(t *testing.T) {
	r := signers(t)
	p := leafPlan("x", "x", ecOne, ecOne)
	self := r.form(t, p)
	q := caPlan("x", "y", ecOne, ecTwo)
	q.unknown = list("1.9")
	over := r.form(t, q)
	top := r.forms(t, caPlan("y", "y", ecTwo, ecTwo))
	wantTold(t, "once", []string{self, over}, top, now, "", api.ErrPathOther)
	wantTold(t, "twice, in between", []string{self, self, over}, top, now, "", api.ErrPathCa)
	wantTold(t, "twice, behind", []string{self, over, self}, top, now, "", api.ErrPathOther)
	wantTold(t, "twice, no other way", []string{self, self}, top, now, "", api.ErrPathNone)
	q.unknown = nil
	wantTold(t, "one way holds", []string{self, self, r.form(t, q)}, top, now, "", api.OK)
	wantTold(t, "the leaf once more is an anchor", []string{self, self}, []string{self}, now, "", api.OK)
}

// Certificates that issued each other in a ring lead nowhere, or on.
func TestCheckRing(t *testing.T) {
	r := signers(t)
	leaf := r.form(t, leafPlan("leaf", "a", rsaOne, ecOne))
	loop := r.forms(t, caPlan("a", "b", ecOne, ecTwo), caPlan("b", "c", ecTwo, rsaOne), caPlan("c", "a", rsaOne, ecOne))
	top := r.forms(t, caPlan("d", "d", rsaTwo, rsaTwo))
	out := caPlan("c", "d", rsaOne, rsaTwo)
	for _, l := range orders(loop) {
		chain := slices.Concat([]string{leaf}, l)
		wantTold(t, "a ring", chain, top, now, "", api.ErrPathNone)
		wantTold(t, "a way out of it", append(chain, r.form(t, out)), top, now, "", api.OK)
		wantTold(t, "an anchor among them", chain, loop[2:], now, "", api.OK)
	}
	wrong := out
	wrong.to = now - 1
	wantTold(t, "a way out that is over", slices.Concat([]string{leaf}, loop, r.forms(t, wrong)), top, now, "", api.ErrPathTime)
}

// An anchor ends a path: nobody asks who issued it, nor does a way lead over it.
func TestCheckAnchorsEnd(t *testing.T) {
	r := signers(t)
	leaf := r.form(t, leafPlan("leaf", "a", rsaOne, ecOne))
	middle, top := r.form(t, caPlan("a", "b", ecOne, ecTwo)), r.form(t, caPlan("b", "b", ecTwo, ecTwo))
	other := r.form(t, caPlan("q", "q", rsaTwo, rsaTwo))
	wantTold(t, "an anchor that somebody issued", []string{leaf}, []string{middle}, now, "", api.OK)
	wantTold(t, "an anchor that is presented", []string{leaf, middle}, []string{middle}, now, "", api.OK)
	p := caPlan("a", "b", ecOne, ecTwo)
	p.to = now - 1
	q := caPlan("b", "b", ecTwo, ecTwo)
	q.unknown = list("1.9")
	wantTold(t, "anchors over one another", []string{leaf}, r.forms(t, p, q), now, "", api.ErrPathTime)
	wantTold(t, "a top that is no anchor", []string{leaf, middle, top}, []string{other}, now, "", api.ErrPathNone)
}

// Self-issued ones in between count for nothing, in Check as in Holds.
func TestCheckSelfIssued(t *testing.T) {
	r := signers(t)
	p := laidPlans("leaf", "a", "a", "b")
	p[3].pathLen, p[3].exclude, p[1].dns = 1, list("x"), list("a.x")
	l := r.forms(t, p...)
	wantTold(t, "self-issued in between", l[:3], l[3:], now, "", api.OK)
	p[2].dns = list("a.x")
	l = r.forms(t, p...)
	wantTold(t, "a host of one that is not", l[:3], l[3:], now, "", api.ErrPathNames)
	p[3].pathLen = 0
	l = r.forms(t, p...)
	wantTold(t, "too deep", l[:3], l[3:], now, "", api.ErrPathDepth)
}

func TestCheckTimes(t *testing.T) {
	r := signers(t)
	p := line()
	for i := range p {
		p[i].from, p[i].to = 100+i, 200-i
	}
	l := r.forms(t, p...)
	for at := 90; at < 210; at++ {
		want := api.ErrPathTime
		if at >= 103 && at <= 197 {
			want = api.OK
		}
		wantTold(t, "at a tick", l[:3], l[3:], at, "", want)
	}
	for _, at := range []int{-1 << 63, -1, 0, 1<<63 - 1} {
		if _, e := path.Check(l[:3], l[3:], at, ""); e != api.ErrPathTime {
			t.Errorf("at %d: %d", at, e)
		}
	}
	p[0].from, p[0].to = -1000, -900
	leaf := r.form(t, p[0])
	wantTold(t, "ahead of 1970", []string{leaf}, []string{leaf}, -950, "", api.OK)
}
