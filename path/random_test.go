package path_test

// Certificates that issued each other in all ways, right ones and wrong ones, against the model.

import (
	"slices"
	"strconv"
	"strings"
	"testing"

	"ostiary/api"
	"ostiary/path"
)

// pool is some certificates from which chains and anchors are taken, and who issued whom, by the library.
type pool struct {
	forms  []string
	issued map[[2]string]bool
}

// somePlan is one of few names, whose key goes by the name, mostly; few of them are wrong in some way.
func (s *source) somePlan(serial, few int) plan {
	names := []string{"a", "b", "c", "a,b", ""}
	keyOf := []int{ecOne, ecTwo, rsaOne, rsaTwo, ecOne}
	subject, issuer := s.below(few), s.below(few)
	if s.below(20) == 0 {
		subject, issuer = s.below(5), s.below(5)
	}
	p := caPlan(names[subject], names[issuer], keyOf[subject], keyOf[issuer])
	p.serial, p.spoilt = serial, s.below(25) == 0
	p.from, p.to = one(s, 0, 0, 0, 0, 400), one(s, 1000, 1000, 1000, 1000, 600)
	p.ca, p.pathLen, p.usage = s.below(12) > 0, one(s, -1, -1, -1, 0, 1, 2), one(s, -1, -1, 33, 33, 511, 1, 32)
	if s.below(15) == 0 {
		p.key = s.below(int(signerKinds))
	}
	p.dns = one(s, nil, nil, list("x"), list("p.x y"), list("y"))
	p.permit = one(s, nil, nil, nil, nil, list("x y"), list("x"))
	p.exclude = one(s, nil, nil, nil, nil, list("p.x"), list("z"))
	p.purposes = one(s, nil, nil, nil, list(purpose), list("1.2.4"), list("1.2.4 "+every))
	if s.below(12) == 0 {
		p.unknown = list("1.9")
	}
	return p
}

func (s *source) pool(t *testing.T, r *ring, size, names int) *pool {
	p := &pool{issued: map[[2]string]bool{}}
	for i := range size {
		p.forms = append(p.forms, r.form(t, s.somePlan(1+i, names)))
	}
	for _, c := range p.forms {
		for _, by := range p.forms {
			p.issued[[2]string{c, by}] = modelIssued(parsed(t, c), parsed(t, by))
		}
	}
	return p
}

func (p *pool) graph(chain, anchors []string) graph {
	return graphOf(chain, anchors, func(c, by string) bool { return p.issued[[2]string{c, by}] })
}

// some are so many of the pool, perhaps one twice.
func (p *pool) some(s *source, n int) []string {
	var l []string
	for range n {
		l = append(l, p.forms[s.below(len(p.forms))])
	}
	return l
}

// counts are how often each error was told, and how often the first path did not hold but another one did, and how often several were there and none held.
type counts struct {
	codes             map[api.Errno]int
	mended, manyWrong int
}

func (n *counts) trial(t *testing.T, s *source, p *pool) {
	t.Helper()
	chain, anchors := p.some(s, 1+s.below(8)), p.some(s, s.below(7))
	at, asked := one(s, 500, 500, 500, 300, 600, 601, 1001), one(s, "", purpose, purpose, "1.2.4")
	want, paths, place := p.graph(chain, anchors).decide(at, asked)
	n.codes[want]++
	if place > 0 {
		n.mended++
	}
	if paths > 1 && want != api.OK {
		n.manyWrong++
	}
	wantTold(t, "some chain", chain, anchors, at, asked, want)
}

func TestCheckAgainstModel(t *testing.T) {
	r := signers(t)
	for seed := range 6 {
		t.Run(strconv.Itoa(seed), func(t *testing.T) {
			t.Parallel()
			s := source(100 + seed)
			n := counts{codes: map[api.Errno]int{}}
			p := s.pool(t, r, 40, 2+seed%3)
			for range 300 {
				n.trial(t, &s, p)
			}
			if n.codes[api.OK] < 20 || n.codes[api.ErrPathNone] < 20 || n.mended < 5 || n.manyWrong < 30 {
				t.Errorf("%+v: not all kinds", n)
			}
		})
	}
}

// someRow is certificates each of which issued the one ahead of it, mostly.
func (p *pool) someRow(s *source, t *testing.T) []api.Cert {
	x := p.forms[s.below(len(p.forms))]
	l := []api.Cert{parsed(t, x)}
	for range s.below(9) {
		var up []string
		for _, by := range p.forms {
			if p.issued[[2]string{x, by}] || s.below(1000) == 0 {
				up = append(up, by)
			}
		}
		if len(up) == 0 {
			break
		}
		x = up[s.below(len(up))]
		l = append(l, parsed(t, x))
	}
	return l
}

func TestHoldsAgainstModel(t *testing.T) {
	r := signers(t)
	for seed := range 4 {
		t.Run(strconv.Itoa(seed), func(t *testing.T) {
			t.Parallel()
			s := source(200 + seed)
			p := s.pool(t, r, 40, 4)
			codes := map[api.Errno]int{}
			for range 300 {
				l := p.someRow(&s, t)
				at, asked := one(&s, 500, 400, 399, 600, 601, 0), one(&s, "", purpose)
				want := modelHolds(l, at, asked)
				codes[want]++
				wantHolds(t, "some row", l, at, asked, want)
			}
			for _, e := range []api.Errno{api.OK, api.ErrPathTime, api.ErrPathCa, api.ErrPathDepth, api.ErrPathNames} {
				if codes[e] < 5 {
					t.Errorf("%v: %d too seldom", codes, e)
				}
			}
		})
	}
}

// What follows from a chain that was answered: the order of the others and of the anchors is nothing to whether it is taken, and more beside take nothing away.
func (n *counts) follow(t *testing.T, s *source, p *pool) {
	t.Helper()
	chain, anchors := p.some(s, 1+s.below(6)), p.some(s, s.below(6))
	at := one(s, 500, 500, 600, 601)
	c, e := path.Check(chain, anchors, at, purpose)
	n.codes[e]++
	mixed, trusted := slices.Clone(chain), slices.Clone(anchors)
	s.mix(mixed[1:])
	s.mix(trusted)
	if _, again := path.Check(mixed, trusted, at, purpose); (again == api.OK) != (e == api.OK) {
		t.Errorf("in another order: %d, ahead %d", again, e)
	}
	if e != api.OK {
		return
	}
	if at < c.From || at > c.To {
		t.Errorf("taken at %d, from %d to %d", at, c.From, c.To)
	}
	for range 3 {
		more := slices.Concat(chain, p.some(s, s.below(9-len(chain))))
		s.mix(more[1:])
		above := slices.Concat(anchors, p.some(s, s.below(17-len(anchors))))
		s.mix(above)
		wantTold(t, "with more beside", more, above, at, purpose, api.OK)
	}
}

// mix lays a list in some order.
func (s *source) mix(l []string) {
	for i := range l {
		k := i + s.below(len(l)-i)
		l[i], l[k] = l[k], l[i]
	}
}

func TestCheckOthersAndOrders(t *testing.T) {
	r := signers(t)
	for seed := range 4 {
		t.Run(strconv.Itoa(seed), func(t *testing.T) {
			t.Parallel()
			s := source(300 + seed)
			p := s.pool(t, r, 30, 3+seed%2)
			n := counts{codes: map[api.Errno]int{}}
			for range 60 {
				n.follow(t, &s, p)
			}
			if n.codes[api.OK] < 5 || n.codes[api.OK] > 50 {
				t.Errorf("%+v: not all kinds", n)
			}
		})
	}
}

// goodPlans are those of a path that holds, of a leaf with hosts, with all that may be told and doesn't forbid it.
func (s *source) goodPlans(n int) []plan {
	l := laidPlans(straight(n)...)
	for i := range l {
		l[i].from, l[i].to, l[i].serial = now-s.below(2), now+s.below(2), 1+s.below(100)
		l[i].usage, l[i].purposes = one(s, -1, 33, 511), one(s, nil, list(purpose), list("1.2.4 "+purpose), list(every))
		l[i].permit, l[i].exclude = one(s, nil, list("x"), list("y x")), one(s, nil, list("q.x"))
		if i > 0 {
			l[i].pathLen = one(s, -1, i-1, i, 127)
		}
		if s.below(2) == 0 {
			l[i].dns = list("a.x x.x")[:1+s.below(2)]
		}
	}
	return l
}

func TestLaidPathsAreTaken(t *testing.T) {
	r := signers(t)
	s := source(7)
	for i := range 60 {
		n := 1 + i%9
		p := s.goodPlans(n)
		l := r.forms(t, p...)
		chain, anchors := l[:max(1, n-1)], l[n-1:]
		others := slices.Clone(chain)
		s.mix(others[1:])
		wantTold(t, "a path that is laid", others, anchors, now, purpose, api.OK)
		if n == 1 {
			continue
		}
		k := s.below(n - 1)
		p[k].spoilt = true
		chain = slices.Clone(chain)
		chain[k] = r.form(t, p[k])
		wantTold(t, "with a spoilt link", chain, anchors, now, purpose, api.ErrPathNone)
		if k > 0 && n < 9 {
			wantTold(t, "with another way", slices.Concat(chain, l[k:k+1]), anchors, now, purpose, api.OK)
		}
	}
}

// What the pools say is not all the same.
func TestPools(t *testing.T) {
	s := source(100)
	p := s.pool(t, signers(t), 40, 4)
	n := 0
	for _, is := range p.issued {
		if is {
			n++
		}
	}
	if n < 200 || n > 800 || strings.Join(p.forms[:1], "") == p.forms[1] {
		t.Errorf("%d of 1600 issued", n)
	}
}
