package path_test

// P8.1: which paths hold. Fields are changed behind the signing: signatures are of the TBS alone.

import (
	"slices"
	"strconv"
	"strings"
	"testing"

	"ostiary/api"
	"ostiary/path"
)

const (
	now     = 500
	purpose = "1.2.3"
	every   = "2.5.29.37.0"
)

// laid is a path of certificates with these names as subjects, from the leaf on, that holds until the tick 1000; the last one issued itself.
func laid(t testing.TB, r *ring, names ...string) []api.Cert {
	t.Helper()
	return r.certs(t, laidPlans(names...)...)
}

func laidPlans(names ...string) []plan {
	var l []plan
	for i, s := range names {
		up := min(i+1, len(names)-1)
		p := caPlan(s, names[up], i%signerKinds, up%signerKinds)
		p.ca = i > 0
		l = append(l, p)
	}
	return l
}

// straight are names for a path of so many.
func straight(n int) []string {
	var l []string
	for i := range n {
		l = append(l, "n"+strconv.Itoa(i))
	}
	return l
}

// changed is a path with one certificate changed.
func changed(l []api.Cert, i int, change func(c *api.Cert)) []api.Cert {
	l = slices.Clone(l)
	change(&l[i])
	return l
}

// cases holds a path with one certificate changed against errors.
type cases []struct {
	what   string
	change func(c *api.Cert)
	want   api.Errno
}

func (l cases) hold(t *testing.T, certs []api.Cert, i int) {
	t.Helper()
	for _, x := range l {
		wantHolds(t, strconv.Itoa(i)+" of "+strconv.Itoa(len(certs))+": "+x.what, changed(certs, i, x.change), now, purpose, x.want)
	}
}

func TestHoldsNoPath(t *testing.T) {
	r := signers(t)
	wantHolds(t, "nothing", nil, now, "", api.ErrPathNone)
	wantHolds(t, "nothing", []api.Cert{}, now, "", api.ErrPathNone)
	wantHolds(t, "no fields", make([]api.Cert, 1), 0, "", api.ErrPathUsage)
	wantHolds(t, "no fields, later", make([]api.Cert, 1), 1, "", api.ErrPathTime)
	wantHolds(t, "two of no fields", make([]api.Cert, 2), 0, "", api.ErrPathSig)
	wantHolds(t, "nine of no fields", make([]api.Cert, 9), 0, "", api.ErrPathSig)
	wantHolds(t, "ten of no fields", make([]api.Cert, 10), 0, "", api.ErrPathLong)
	wantHolds(t, "many", make([]api.Cert, 1000), 0, "", api.ErrPathLong)
	l := laid(t, r, straight(10)...)
	wantHolds(t, "a path of ten", l, now, "", api.ErrPathLong)
	for i := range 9 {
		wantHolds(t, "a path", l[:i+1], now, "", api.OK)
		wantHolds(t, "a path from above the leaf", l[i:9], now, "", api.OK)
	}
	wantHolds(t, "the other way round", []api.Cert{l[1], l[0]}, now, "", api.ErrPathSig)
	wantHolds(t, "one twice", []api.Cert{l[0], l[0], l[1]}, now, "", api.ErrPathSig)
	wantHolds(t, "one that issued itself, thrice", []api.Cert{l[8], l[9], l[9], l[9]}, now, "", api.OK)
	for i := range 8 {
		wantHolds(t, "one left out", slices.Concat(l[:i+1], l[i+2:9]), now, "", map[bool]api.Errno{true: api.OK, false: api.ErrPathSig}[i == 7])
		wantHolds(t, "a spoilt TBS", changed(l[:9], i, func(c *api.Cert) { c.Tbs += "\x00" }), now, "", api.ErrPathSig)
		wantHolds(t, "another issuer", changed(l[:9], i, func(c *api.Cert) { c.Issuer = attrs("other") }), now, "", api.ErrPathSig)
		wantHolds(t, "no issuer", changed(l[:9], i, func(c *api.Cert) { c.Issuer = nil }), now, "", api.ErrPathSig)
		wantHolds(t, "another subject", changed(l[:9], i+1, func(c *api.Cert) { c.Subject = attrs("other") }), now, "", api.ErrPathSig)
	}
	// Who issued the anchor is not asked, nor whom the leaf issued.
	wantHolds(t, "a spoilt anchor", changed(l[:3], 2, func(c *api.Cert) { c.Tbs, c.Issuer = "", attrs("other") }), now, "", api.OK)
	wantHolds(t, "an anchor of nobody", changed(l[:3], 2, func(c *api.Cert) { c.Issuer = nil }), now, "", api.OK)
	wantHolds(t, "a leaf without a subject", changed(l[:3], 0, func(c *api.Cert) { c.Subject = nil }), now, "", api.OK)
}

// What is no path is told ahead of the six.
func TestHoldsNoPathFirst(t *testing.T) {
	l := laid(t, signers(t), straight(3)...)
	l = changed(l, 0, func(c *api.Cert) { c.To, c.Unknown = 0, []string{"1.9"} })
	l = changed(l, 2, func(c *api.Cert) { c.Ca = false })
	wantHolds(t, "a path", l, now, "", api.ErrPathTime)
	wantHolds(t, "no path", changed(l, 2, func(c *api.Cert) { c.Subject = nil }), now, "", api.ErrPathSig)
	for len(l) < 10 {
		l = append(l, l[0])
	}
	wantHolds(t, "none of nine", l[:9], now, "", api.ErrPathSig)
	wantHolds(t, "none of ten", l, now, "", api.ErrPathLong)
}

func TestHoldsTime(t *testing.T) {
	r := signers(t)
	for n := 1; n <= 9; n += 2 {
		l := laid(t, r, straight(n)...)
		for i := range n {
			cases{
				{"from now on", func(c *api.Cert) { c.From = now }, api.OK},
				{"from the next tick on", func(c *api.Cert) { c.From = now + 1 }, api.ErrPathTime},
				{"to now", func(c *api.Cert) { c.To = now }, api.OK},
				{"to the tick ahead", func(c *api.Cert) { c.To = now - 1 }, api.ErrPathTime},
				{"now alone", func(c *api.Cert) { c.From, c.To = now, now }, api.OK},
				{"turned round", func(c *api.Cert) { c.From, c.To = now+1, now-1 }, api.ErrPathTime},
				{"from long ago", func(c *api.Cert) { c.From = -1 << 63 }, api.OK},
				{"for ever", func(c *api.Cert) { c.To = 1<<63 - 1 }, api.OK},
				{"never", func(c *api.Cert) { c.From, c.To = 1<<63-1, -1<<63 }, api.ErrPathTime},
			}.hold(t, l, i)
		}
	}
	l := laid(t, r, "a")
	l[0].From = -5
	for at, want := range map[int]api.Errno{-6: api.ErrPathTime, -5: api.OK, -1: api.OK, 0: api.OK, 1000: api.OK, 1001: api.ErrPathTime, -1 << 63: api.ErrPathTime, 1<<63 - 1: api.ErrPathTime} {
		wantHolds(t, strconv.Itoa(at), l, at, "", want)
	}
}

func TestHoldsCa(t *testing.T) {
	r := signers(t)
	for n := 1; n <= 9; n += 4 {
		l := laid(t, r, straight(n)...)
		for i := range n {
			bad := api.ErrPathCa
			if i == 0 {
				bad = api.OK
			}
			cases{
				{"no Ca", func(c *api.Cert) { c.Ca = false }, bad},
				{"no Ca, with a usage", func(c *api.Cert) { c.Ca, c.Usage = false, 33 }, bad},
				{"no Ca, with a length", func(c *api.Cert) { c.Ca, c.PathLen = false, 127 }, bad},
				{"a Ca", func(c *api.Cert) { c.Ca = true }, api.OK},
				{"no usage", func(c *api.Cert) { c.Ca, c.Usage = true, -1 }, api.OK},
				{"all usages", func(c *api.Cert) { c.Ca, c.Usage = true, 511 }, api.OK},
				{"all usages but that", func(c *api.Cert) { c.Ca, c.Usage = true, 511-32 }, bad},
				{"it and the first", func(c *api.Cert) { c.Ca, c.Usage = true, 33 }, api.OK},
				{"the first", func(c *api.Cert) { c.Ca, c.Usage = true, 1 }, bad},
				{"it signs lists alone", func(c *api.Cert) { c.Ca, c.Usage = true, 65 }, bad},
			}.hold(t, l, i)
			if i > 0 {
				cases{
					{"that usage alone", func(c *api.Cert) { c.Usage = 32 }, api.OK},
					{"usage 31", func(c *api.Cert) { c.Usage = 31 }, api.ErrPathCa},
					{"usage 0", func(c *api.Cert) { c.Usage = 0 }, api.ErrPathCa},
				}.hold(t, l, i)
			}
		}
	}
}

func TestHoldsUsage(t *testing.T) {
	r := signers(t)
	for _, n := range []int{1, 2, 9} {
		l := laid(t, r, straight(n)...)
		usages := []int{-1, 0, 1, 2, 32, 33, 128, 256, 257, 510, 511}
		for usage := 0; n == 1 && usage < 512; usage++ {
			usages = append(usages, usage)
		}
		for _, usage := range usages {
			want := api.OK
			if usage != -1 && usage%2 == 0 {
				want = api.ErrPathUsage
			}
			wantHolds(t, "the leaf's usage "+strconv.Itoa(usage), changed(l, 0, func(c *api.Cert) { c.Usage = usage }), now, "", want)
			wantHolds(t, "a Ca's usage "+strconv.Itoa(usage), changed(l, 0, func(c *api.Cert) { c.Usage, c.Ca = usage, true }), now, "", want)
		}
	}
}

// Paths by their names: a name that follows itself is of one that is self-issued.
func TestHoldsDepth(t *testing.T) {
	r := signers(t)
	for _, names := range []string{"a", "a b", "a b c", "a b c d e f g h i", "a b b", "a b b c", "a a", "a a a", "a a b", "a b b b b b b b b", "a b c c d", "a b b c d d e e f", "a a b b c c d d e", "a b a b a b"} {
		l := laid(t, r, strings.Fields(names)...)
		for i := range l {
			between := 0
			for k := 1; k < i; k++ {
				if flat(l[k].Issuer) != flat(l[k].Subject) {
					between++
				}
			}
			for _, n := range []int{-1, 0, 1, 2, 3, 4, 5, 6, 7, 8, 127} {
				want := api.OK
				if i > 0 && n != -1 && between > n {
					want = api.ErrPathDepth
				}
				wantHolds(t, names+": "+strconv.Itoa(i)+" with the length "+strconv.Itoa(n), changed(l, i, func(c *api.Cert) { c.PathLen = n }), now, "", want)
			}
		}
	}
}

// In figures, of a path whose third certificate issued itself.
func TestHoldsDepthFigures(t *testing.T) {
	l := laid(t, signers(t), "leaf", "b", "c", "c", "d", "e")
	for _, x := range []struct {
		place, least int
	}{{0, 0}, {1, 0}, {2, 1}, {3, 1}, {4, 2}, {5, 3}} {
		with := func(n int) []api.Cert { return changed(l, x.place, func(c *api.Cert) { c.PathLen = n }) }
		wantHolds(t, "enough", with(x.least), now, "", api.OK)
		if x.least > 0 {
			wantHolds(t, "one less", with(x.least-1), now, "", api.ErrPathDepth)
		}
	}
}

func withNames(dns, permit, exclude []string) func(c *api.Cert) {
	return func(c *api.Cert) { c.Dns, c.Permit, c.Exclude = dns, permit, exclude }
}

func list(s string) []string { return strings.Fields(s) }

// Of a leaf's hosts, what an issuer permits.
func TestHoldsNames(t *testing.T) {
	l := laid(t, signers(t), "a", "b", "c", "d")
	for _, x := range []struct {
		dns, permit, exclude string
		want                 api.Errno
	}{
		{"", "", "", api.OK}, {"", "x", "", api.OK}, {"", "", "x", api.OK}, {"", "x", "x", api.OK},
		{"a.x", "", "", api.OK}, {"a.x", "x", "", api.OK}, {"x", "x", "", api.OK}, {"a.x", "a.x", "", api.OK}, {"a.x", "b.x", "", api.ErrPathNames}, {"x", "a.x", "", api.ErrPathNames}, {"ax", "x", "", api.ErrPathNames},
		{"a.x", "y x", "", api.OK}, {"a.x", "x y", "", api.OK}, {"a.x", "y z", "", api.ErrPathNames},
		{"a.x b.x", "x", "", api.OK}, {"a.x b.y", "x", "", api.ErrPathNames}, {"b.y a.x", "x", "", api.ErrPathNames}, {"a.x b.y", "x y", "", api.OK}, {"a.x b.y", "y x", "", api.OK},
		{"a.x", "", "x", api.ErrPathNames}, {"x", "", "x", api.ErrPathNames}, {"ax", "", "x", api.OK}, {"x", "", "a.x", api.OK}, {"a.x", "", "y x", api.ErrPathNames}, {"a.x", "", "x y", api.ErrPathNames}, {"a.x", "", "y z", api.OK},
		{"b.y a.x", "", "x", api.ErrPathNames}, {"a.x b.y", "", "x", api.ErrPathNames}, {"a.y b.y", "", "x", api.OK},
		{"a.x", "x", "a.x", api.ErrPathNames}, {"a.x", "x", "b.x", api.OK}, {"a.x", "a.x", "x", api.ErrPathNames}, {"a.y", "x", "z", api.ErrPathNames}, {"a.x b.x c.x", "x", "b.x", api.ErrPathNames},
	} {
		for i := 1; i < len(l); i++ {
			y := changed(changed(l, 0, withNames(list(x.dns), nil, nil)), i, withNames(nil, list(x.permit), list(x.exclude)))
			wantHolds(t, x.dns+", "+x.permit+", "+x.exclude, y, now, "", x.want)
		}
	}
}

// Whose hosts count for whose constraints: those nearer to the leaf, of the leaf and of those that are not self-issued.
func TestHoldsNamesPlaces(t *testing.T) {
	r := signers(t)
	for _, names := range []string{"a", "a b", "a b c d", "a a b", "a a", "a b b c", "a b b b c d", "a b c c"} {
		l := laid(t, r, strings.Fields(names)...)
		for i := range l {
			for k := range l {
				bad := k < i && (k == 0 || flat(l[k].Issuer) != flat(l[k].Subject))
				want := map[bool]api.Errno{true: api.ErrPathNames, false: api.OK}[bad]
				what := names + ": a host of " + strconv.Itoa(k) + ", by " + strconv.Itoa(i)
				for _, by := range []func(c *api.Cert){func(c *api.Cert) { c.Permit = list("y") }, func(c *api.Cert) { c.Exclude = list("x") }} {
					y := changed(l, i, by)
					y[k].Dns = list("a.x")
					wantHolds(t, what, y, now, "", want)
					y[k].Dns = nil
					wantHolds(t, what+", without hosts", y, now, "", api.OK)
				}
			}
		}
	}
}

// Each one's constraints count, whatever another one's permit.
func TestHoldsNamesOfMany(t *testing.T) {
	l := laid(t, signers(t), "a", "b", "c", "d")
	l[0].Dns = list("k.x.y")
	for _, x := range []struct {
		b, c, d string
		want    api.Errno
	}{{"y", "x.y", "k.x.y", api.OK}, {"k.x.y", "x.y", "y", api.OK}, {"z", "y", "y", api.ErrPathNames}, {"y", "z", "y", api.ErrPathNames}, {"y", "y", "z", api.ErrPathNames}, {"", "z", "", api.ErrPathNames}, {"", "", "", api.OK}} {
		l[1].Permit, l[2].Permit, l[3].Permit = list(x.b), list(x.c), list(x.d)
		wantHolds(t, x.b+", "+x.c+", "+x.d, l, now, "", x.want)
	}
}

func TestHoldsPurposes(t *testing.T) {
	r := signers(t)
	for n := 1; n <= 9; n += 4 {
		l := laid(t, r, straight(n)...)
		for i := range n {
			for _, x := range []struct {
				purposes, asked string
				want            api.Errno
			}{
				{"", "", api.OK}, {"", purpose, api.OK}, {"", every, api.OK},
				{purpose, "", api.OK}, {purpose, purpose, api.OK}, {"1.2.4", purpose, api.ErrPathUsage}, {"1.2.4", "", api.OK},
				{"1.2.4 " + purpose, purpose, api.OK}, {purpose + " 1.2.4", purpose, api.OK}, {"1.2.4 1.2.5", purpose, api.ErrPathUsage},
				{every, purpose, api.OK}, {"1.2.4 " + every, purpose, api.OK}, {every + " 1.2.4", purpose, api.OK}, {every, every, api.OK}, {"1.2.4", every, api.ErrPathUsage},
				{"1.2.3.4", purpose, api.ErrPathUsage}, {"1.2", purpose, api.ErrPathUsage}, {"2.5.29.37", purpose, api.ErrPathUsage}, {purpose, "1.2.3 ", api.ErrPathUsage}, {purpose, "1.2.3.4", api.ErrPathUsage},
			} {
				y := changed(l, i, func(c *api.Cert) { c.Purposes = list(x.purposes) })
				wantHolds(t, strconv.Itoa(i)+": "+x.purposes+", for "+x.asked, y, now, x.asked, x.want)
			}
		}
	}
	l := laid(t, r, straight(3)...)
	l[0].Purposes, l[1].Purposes, l[2].Purposes = list("1.2.3 1.2.4"), list("1.2.4 1.2.5"), list("1.2.4")
	for asked, want := range map[string]api.Errno{"1.2.3": api.ErrPathUsage, "1.2.4": api.OK, "1.2.5": api.ErrPathUsage, "": api.OK} {
		wantHolds(t, "for "+asked, l, now, asked, want)
	}
}

func TestHoldsOther(t *testing.T) {
	r := signers(t)
	for n := 1; n <= 9; n += 4 {
		l := laid(t, r, straight(n)...)
		for i := range n {
			cases{
				{"an unknown one", func(c *api.Cert) { c.Unknown = list("1.9") }, api.ErrPathOther},
				{"two", func(c *api.Cert) { c.Unknown = list("1.9 1.8") }, api.ErrPathOther},
				{"an empty one", func(c *api.Cert) { c.Unknown = []string{""} }, api.ErrPathOther},
				{"none", func(c *api.Cert) { c.Unknown = []string{} }, api.OK},
			}.hold(t, l, i)
		}
	}
}

// wrongs are changes for the six, of a certificate that is not the leaf; the leaf has a host a.x.
func wrongs() []func(c *api.Cert) {
	return []func(c *api.Cert){
		func(c *api.Cert) { c.To = now - 1 },
		func(c *api.Cert) { c.Ca = false },
		func(c *api.Cert) { c.PathLen = 0 },
		func(c *api.Cert) { c.Permit = list("y") },
		func(c *api.Cert) { c.Purposes = list("1.2.4") },
		func(c *api.Cert) { c.Unknown = list("1.9") },
	}
}

// Each of the six is asked of all certificates ahead of the next one.
func TestHoldsOrder(t *testing.T) {
	l := laid(t, signers(t), straight(5)...)
	l[0].Dns = list("a.x")
	for a, first := range wrongs() {
		for b, second := range wrongs() {
			for i := 2; i < 5; i++ {
				for k := 2; k < 5; k++ {
					want := api.ErrPathTime + api.Errno(min(a, b))
					wantHolds(t, "two wrongs", changed(changed(l, i, first), k, second), now, purpose, want)
				}
			}
		}
	}
	// The leaf's own two ways to be wrong by its usage are one of the six.
	for a, wrong := range wrongs() {
		y := changed(changed(l, 3, wrong), 0, func(c *api.Cert) { c.Usage = 32 })
		wantHolds(t, "and the leaf's usage", y, now, purpose, api.ErrPathTime+api.Errno(min(a, 4)))
		if a != 1 && a != 2 && a != 3 {
			y = changed(changed(l, 0, wrong), 3, wrongs()[3])
			wantHolds(t, "the leaf and a name", y, now, purpose, api.ErrPathTime+api.Errno(min(a, 3)))
		}
	}
}

// Of certificates whose numbers may not be nothing is promised, but that each call ends.
func TestHoldsOddNumbers(t *testing.T) {
	l := laid(t, signers(t), straight(3)...)
	for _, n := range []int{-1 << 63, -2, 128, 512, 1 << 40, 1<<63 - 1} {
		for i := range l {
			path.Holds(changed(l, i, func(c *api.Cert) { c.PathLen = n }), now, "")
			path.Holds(changed(l, i, func(c *api.Cert) { c.Usage = n }), now, "")
			path.Holds(changed(l, i, func(c *api.Cert) { c.Kind, c.Alg = n, n }), now, "")
		}
	}
}
