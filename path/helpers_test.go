package path_test

// What the tests lean on: certificates as they are planned, signed by the library alone, as forms and as values.

import (
	"crypto"
	stdecdsa "crypto/ecdsa"
	"crypto/elliptic"
	stdrsa "crypto/rsa"
	"crypto/sha256"
	"math/big"
	"reflect"
	"slices"
	"strings"
	"testing"

	"ostiary/api"
	"ostiary/cert"
	"ostiary/der"
	"ostiary/path"
)

// The keys: two of each kind.
const (
	ecOne = iota
	ecTwo
	rsaOne
	rsaTwo
	signerKinds
)

// ring is all keys, the same on every run.
type ring [signerKinds]crypto.Signer

func signers(t testing.TB) *ring {
	t.Helper()
	return &ring{ecSigner(t, 1), ecSigner(t, 2), rsaSigner(t, 1), rsaSigner(t, 2)}
}

// source tells the same numbers on every run.
type source uint64

func (s *source) below(n int) int {
	*s = *s*6364136223846793005 + 1442695040888963407
	return int(uint64(*s)>>33) % n
}

func (s *source) bytes(n int) string {
	b := make([]byte, n)
	for i := range b {
		b[i] = byte(s.below(256))
	}
	return string(b)
}

// one is one of a list.
func one[T any](s *source, l ...T) T { return l[s.below(len(l))] }

func ecSigner(t testing.TB, seed int) *stdecdsa.PrivateKey {
	t.Helper()
	s := source(seed)
	k, err := stdecdsa.ParseRawPrivateKey(elliptic.P256(), []byte("\x00"+s.bytes(31)))
	if err != nil {
		t.Fatal(err)
	}
	return k
}

// primeOf is the next prime behind some noise, with its upper two digits 1, whose less one shares nothing with 65537.
func primeOf(seed int) *big.Int {
	s := source(seed)
	p := new(big.Int).SetBytes([]byte(s.bytes(64)))
	p.SetBit(p, 511, 1).SetBit(p, 510, 1).SetBit(p, 0, 1)
	for ; ; p.Add(p, big.NewInt(2)) {
		if p.ProbablyPrime(8) && new(big.Int).Mod(p, big.NewInt(65537)).Int64() != 1 {
			return p
		}
	}
}

func rsaSigner(t testing.TB, seed int) *stdrsa.PrivateKey {
	t.Helper()
	p, q := primeOf(2*seed), primeOf(2*seed+1)
	one := big.NewInt(1)
	phi := new(big.Int).Mul(new(big.Int).Sub(p, one), new(big.Int).Sub(q, one))
	k := &stdrsa.PrivateKey{PublicKey: stdrsa.PublicKey{N: new(big.Int).Mul(p, q), E: 65537}, D: new(big.Int).ModInverse(big.NewInt(65537), phi), Primes: []*big.Int{p, q}}
	k.Precompute()
	if err := k.Validate(); err != nil {
		t.Fatal(err)
	}
	return k
}

// plan is what a certificate is to say. Names are common names with `,` between; an empty text has none.
type plan struct {
	subject, issuer string
	key, by         int // whose it is, and who signs it, in the ring
	from, to        int
	ca              bool
	pathLen, usage  int
	purposes        []string
	dns             []string
	permit, exclude []string
	unknown         []string
	spoilt          bool // of the signature the last digit is another one
	serial          int
}

// leafPlan is one that nothing is wrong with; caPlan too, of one that issues.
func leafPlan(subject, issuer string, key, by int) plan {
	return plan{subject: subject, issuer: issuer, key: key, by: by, to: 1000, pathLen: -1, usage: -1, serial: 1}
}

func caPlan(subject, issuer string, key, by int) plan {
	p := leafPlan(subject, issuer, key, by)
	p.ca = true
	return p
}

func prim(tag int, bytes string) api.Der { return api.Der{Tag: tag, Bytes: bytes} }

func seq(l ...api.Der) api.Der { return api.Der{Tag: api.DerSeq, Cons: true, List: l} }

func context(tag int, l ...api.Der) api.Der {
	return api.Der{Class: api.DerContext, Tag: tag, Cons: true, List: l}
}

func bits(bytes string) api.Der { return prim(api.DerBits, "\x00"+bytes) }

func null() api.Der { return prim(api.DerNull, "") }

func yes() api.Der { return prim(api.DerBool, "\xff") }

func oid(s string) api.Der {
	d, e := der.OfOid(s)
	if e != api.OK {
		panic(s)
	}
	return d
}

func number(bytes string) api.Der {
	d, e := der.OfNat(bytes)
	if e != api.OK {
		panic(e)
	}
	return d
}

func moment(n int) api.Der {
	d, e := der.OfTime(n)
	if e != api.OK {
		panic(n)
	}
	return d
}

func form(d api.Der) string {
	s, e := der.Print(d)
	if e != api.OK {
		panic(e)
	}
	return s
}

// attrs are the attributes of a name.
func attrs(name string) []api.Attr {
	var l []api.Attr
	if name == "" {
		return l
	}
	for s := range strings.SplitSeq(name, ",") {
		l = append(l, api.Attr{Type: "2.5.4.3", Value: s})
	}
	return l
}

func nameOf(name string) api.Der {
	d := seq()
	for _, a := range attrs(name) {
		d.List = append(d.List, api.Der{Tag: api.DerSet, Cons: true, List: []api.Der{seq(oid(a.Type), prim(api.DerPrintable, a.Value))}})
	}
	return d
}

func hosts(l []string) []api.Der {
	var out []api.Der
	for _, s := range l {
		out = append(out, api.Der{Class: api.DerContext, Tag: 2, Bytes: s})
	}
	return out
}

func constraints(p plan) api.Der {
	d := seq()
	for tag, l := range [][]string{p.permit, p.exclude} {
		if len(l) > 0 {
			x := context(tag)
			for _, h := range hosts(l) {
				x.List = append(x.List, seq(h))
			}
			d.List = append(d.List, x)
		}
	}
	return d
}

// usageBits are the digits of a usage, up to the last one that is 1.
func usageBits(usage int) api.Der {
	b := make([]byte, 2)
	last := 0
	for i := range 9 {
		if usage>>i&1 == 1 {
			b[i/8] |= 128 >> (i % 8)
			last = i
		}
	}
	return prim(api.DerBits, string([]byte{byte(7 - last%8)})+string(b[:1+last/8]))
}

func extensions(p plan) []api.Der {
	var l []api.Der
	add := func(id string, v api.Der) {
		l = append(l, seq(oid(id), yes(), prim(api.DerOctets, form(v))))
	}
	if p.ca && p.pathLen >= 0 {
		add("2.5.29.19", seq(yes(), number(string([]byte{byte(p.pathLen)}))))
	} else if p.ca {
		add("2.5.29.19", seq(yes()))
	}
	if p.usage > 0 {
		add("2.5.29.15", usageBits(p.usage))
	}
	if len(p.dns) > 0 {
		add("2.5.29.17", seq(hosts(p.dns)...))
	}
	if d := constraints(p); len(d.List) > 0 {
		add("2.5.29.30", d)
	}
	if len(p.purposes) > 0 {
		d := seq()
		for _, s := range p.purposes {
			d.List = append(d.List, oid(s))
		}
		add("2.5.29.37", d)
	}
	for _, s := range p.unknown {
		add(s, null())
	}
	return l
}

func keyPart(t testing.TB, k crypto.Signer) api.Der {
	t.Helper()
	switch x := k.Public().(type) {
	case *stdrsa.PublicKey:
		return seq(seq(oid("1.2.840.113549.1.1.1"), null()), bits(form(seq(number(string(x.N.Bytes())), number("\x01\x00\x01")))))
	case *stdecdsa.PublicKey:
		b, err := x.Bytes()
		if err != nil {
			t.Fatal(err)
		}
		return seq(seq(oid("1.2.840.10045.2.1"), oid("1.2.840.10045.3.1.7")), bits(string(b)))
	}
	t.Fatal("no such key")
	return api.Der{}
}

func algorithm(k crypto.Signer) api.Der {
	if _, ok := k.(*stdrsa.PrivateKey); ok {
		return seq(oid("1.2.840.113549.1.1.11"), null())
	}
	return seq(oid("1.2.840.10045.4.3.2"))
}

// form is a plan's certificate as bytes.
func (r *ring) form(t testing.TB, p plan) string {
	t.Helper()
	alg := algorithm(r[p.by])
	tbs := seq(context(0, number("\x02")), number(string([]byte{byte(p.serial)})), alg, nameOf(p.issuer), seq(moment(p.from), moment(p.to)), nameOf(p.subject), keyPart(t, r[p.key]))
	if l := extensions(p); len(l) > 0 {
		tbs.List = append(tbs.List, context(3, seq(l...)))
	}
	sum := sha256.Sum256([]byte(form(tbs)))
	b, err := r[p.by].Sign(nil, sum[:], crypto.SHA256)
	if err != nil {
		t.Fatal(err)
	}
	if p.spoilt {
		b[len(b)-1] ^= 1
	}
	return form(seq(tbs, alg, bits(string(b))))
}

func (r *ring) forms(t testing.TB, plans ...plan) []string {
	t.Helper()
	var l []string
	for _, p := range plans {
		l = append(l, r.form(t, p))
	}
	return l
}

// certs are plans' certificates as values. What no form can say (a usage of 0) is laid into them.
func (r *ring) certs(t testing.TB, plans ...plan) []api.Cert {
	t.Helper()
	var l []api.Cert
	for _, p := range plans {
		c := parsed(t, r.form(t, p))
		c.Usage = p.usage
		l = append(l, c)
	}
	return l
}

func parsed(t testing.TB, s string) api.Cert {
	t.Helper()
	c, e := cert.Parse(s)
	if e != api.OK {
		t.Fatal(e)
	}
	return c
}

// even makes lists without elements nil: they are the same.
func even(c api.Cert) api.Cert {
	for _, l := range []*[]api.Attr{&c.Issuer, &c.Subject} {
		if len(*l) == 0 {
			*l = nil
		}
	}
	for _, l := range []*[]string{&c.Purposes, &c.Dns, &c.Permit, &c.Exclude, &c.Unknown} {
		if len(*l) == 0 {
			*l = nil
		}
	}
	return c
}

func same(a, b api.Cert) bool { return reflect.DeepEqual(even(a), even(b)) }

// wantTold: a chain and anchors are answered an error and nothing beside, or OK and the leaf.
func wantTold(t *testing.T, what string, chain, anchors []string, now int, purpose string, want api.Errno) {
	t.Helper()
	c, e := path.Check(chain, anchors, now, purpose)
	if e != want {
		t.Errorf("%s: %d, not %d", what, e, want)
		return
	}
	leaf := api.Cert{}
	if e == api.OK {
		leaf = parsed(t, chain[0])
	}
	if !same(c, leaf) {
		t.Errorf("%s: %+v, not %+v", what, c, leaf)
	}
}

func wantHolds(t *testing.T, what string, l []api.Cert, now int, purpose string, want api.Errno) {
	t.Helper()
	if e := path.Holds(l, now, purpose); e != want {
		t.Errorf("%s: %d, not %d", what, e, want)
	}
}

// orders are all orders of a list.
func orders[T any](l []T) [][]T {
	if len(l) == 0 {
		return [][]T{nil}
	}
	var out [][]T
	for i := range l {
		for _, rest := range orders(slices.Concat(l[:i], l[i+1:])) {
			out = append(out, slices.Concat(l[i:i+1], rest))
		}
	}
	return out
}
