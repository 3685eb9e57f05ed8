package text_test

// P1.2 and P1.4 of UTF-8 and units; Same.

import (
	"math"
	"slices"
	"strings"
	"testing"
	"unicode/utf16"
	"unicode/utf8"

	"ostiary/api"
	"ostiary/text"
)

// wantRunes: s is UTF-8, of these units, and the units are of s.
func wantRunes(t *testing.T, s string, units ...int) {
	t.Helper()
	if !text.Utf8(s) {
		t.Errorf("Utf8(%q)", s)
	}
	if l, e := text.Units(s); !slices.Equal(l, units) || e != api.OK {
		t.Errorf("Units(%q): %x, %d, not %x", s, l, e, units)
	}
	if x, e := text.FromUnits(units); x != s || e != api.OK {
		t.Errorf("FromUnits(%x): %q, %d, not %q", units, x, e, s)
	}
}

func wantNoUtf(t *testing.T, s string) {
	t.Helper()
	if text.Utf8(s) {
		t.Errorf("Utf8(%q)", s)
	}
	if l, e := text.Units(s); len(l) != 0 || e != api.ErrTextUtf {
		t.Errorf("Units(%q): %x, %d", s, l, e)
	}
}

func wantNoUnits(t *testing.T, e api.Errno, l ...int) {
	t.Helper()
	if s, x := text.FromUnits(l); s != "" || x != e {
		t.Errorf("FromUnits(%x): %q, %d, not %d", l, s, x, e)
	}
}

func TestRunesAtEdges(t *testing.T) {
	wantRunes(t, "")
	wantRunes(t, "a", 0x61)
	wantRunes(t, "\x00", 0)
	wantRunes(t, "\x7f", 0x7F)
	wantRunes(t, "\xc2\x80", 0x80)
	wantRunes(t, "\xdf\xbf", 0x7FF)
	wantRunes(t, "\xe0\xa0\x80", 0x800)
	wantRunes(t, "\xe2\x82\xac", 0x20AC)
	wantRunes(t, "\xed\x9f\xbf", 0xD7FF)
	wantRunes(t, "\xee\x80\x80", 0xE000)
	wantRunes(t, "\xef\xbf\xbd", 0xFFFD)
	wantRunes(t, "\xef\xbf\xbe", 0xFFFE)
	wantRunes(t, "\xef\xbf\xbf", 0xFFFF)
	wantRunes(t, "\xf0\x90\x80\x80", 0xD800, 0xDC00)
	wantRunes(t, "\xf0\x90\x8f\xbf", 0xD800, 0xDFFF)
	wantRunes(t, "\xf0\x90\x90\x80", 0xD801, 0xDC00)
	wantRunes(t, "\xf0\x9f\x98\x80", 0xD83D, 0xDE00)
	wantRunes(t, "\xf4\x8f\xb0\x80", 0xDBFF, 0xDC00)
	wantRunes(t, "\xf4\x8f\xbf\xbf", 0xDBFF, 0xDFFF)
	wantRunes(t, "a\x00\xc2\x80\xf0\x9f\x98\x80\xf0\x9f\x98\x80\xe2\x82\xacz", 0x61, 0, 0x80, 0xD83D, 0xDE00, 0xD83D, 0xDE00, 0x20AC, 0x7A)
	wantRunes(t, "\xef\xbf\xbd\xef\xbf\xbd", 0xFFFD, 0xFFFD)
}

func TestEachRune(t *testing.T) {
	for r := range rune(0x110000) {
		if r >= 0xD800 && r <= 0xDFFF {
			continue
		}
		var units []int
		for _, u := range utf16.AppendRune(nil, r) {
			units = append(units, int(u))
		}
		wantRunes(t, string(r), units...)
	}
}

func TestNoUtf(t *testing.T) {
	wrong := []string{
		"\x80", "\xbf", "\xc2", "\xe2\x82", "\xe2", "\xf0\x9f\x98", "\xf0\x9f", "\xf0", "\xff", "\xfe", "\xf8\x88\x80\x80\x80", "\xfc\x84\x80\x80\x80\x80",
		"\xc0\x80", "\xc1\xbf", "\xc0\xaf", "\xe0\x80\x80", "\xe0\x9f\xbf", "\xf0\x80\x80\x80", "\xf0\x8f\xbf\xbf", // forms that are too long
		"\xed\xa0\x80", "\xed\xaf\xbf", "\xed\xb0\x80", "\xed\xbf\xbf", "\xed\xa0\xbd\xed\xb8\x80", // surrogates, a pair of them, too
		"\xf4\x90\x80\x80", "\xf5\x80\x80\x80", "\xf7\xbf\xbf\xbf", // beyond 10FFFF
		"\xc2\x41", "\xe2\x82\x41", "\xe2\x41\xac", "\xc3\xc3", "\xf0\x9f\x98\x41", "\xe2\x82\xac\xac",
	}
	for _, s := range wrong {
		wantNoUtf(t, s)
		wantNoUtf(t, "a"+s)
		wantNoUtf(t, s+"a")
		wantNoUtf(t, "\xef\xbf\xbd"+s)
		wantNoUtf(t, strings.Repeat("\xe2\x82\xac", 50)+s)
	}
}

// All texts of two bytes, all of three behind a first byte of three, and of four with all that decide.
func TestUtfOfAllBeginnings(t *testing.T) {
	same := func(b ...byte) {
		s := string(b)
		if utf8.ValidString(s) != text.Utf8(s) {
			t.Errorf("Utf8(%q)", s)
		}
		if l, e := text.Units(s); (e == api.OK) != utf8.ValidString(s) || e != api.OK && (e != api.ErrTextUtf || len(l) != 0) {
			t.Errorf("Units(%q): %x, %d", s, l, e)
		}
	}
	edges := []byte{0, 0x7F, 0x80, 0x8F, 0x90, 0x9F, 0xA0, 0xBF, 0xC0, 0xFF}
	for i := range 1 << 16 {
		a, b := byte(i>>8), byte(i)
		same(a, b)
		if a < 0xE0 {
			continue
		}
		for _, c := range edges {
			same(a, b, c)
			for _, d := range edges {
				same(a, b, c, d)
			}
		}
	}
}

func TestFromUnitsExamples(t *testing.T) {
	wantNoUnits(t, api.ErrTextPair, 0xD83D)
	wantNoUnits(t, api.ErrTextPair, 0xDE00)
	wantNoUnits(t, api.ErrTextUnit, 65536)
	wantNoUnits(t, api.ErrTextPair, 0xD83D, 65536)
	for _, l := range [][]int{nil, {}} {
		if s, e := text.FromUnits(l); s != "" || e != api.OK {
			t.Errorf("FromUnits of nothing: %q, %d", s, e)
		}
	}
}

func TestFromUnitsOrder(t *testing.T) {
	for _, u := range []int{-1, 0x10000, 0x1F600, 0x1D83D, 0x1DE00, -0x2800, math.MinInt, math.MaxInt, 1 << 32, 1<<32 + 0x61, 1<<32 + 0xD83D, 1<<32 + 0xDE00, 1<<16 + 0x61} {
		wantNoUnits(t, api.ErrTextUnit, u)
		wantNoUnits(t, api.ErrTextUnit, 0x61, u)
		wantNoUnits(t, api.ErrTextUnit, u, 0xDE00)
		wantNoUnits(t, api.ErrTextUnit, u, 0xD83D)
		wantNoUnits(t, api.ErrTextUnit, 0xD83D, 0xDE00, u)
		wantNoUnits(t, api.ErrTextPair, 0xD83D, u)
		wantNoUnits(t, api.ErrTextPair, 0xDE00, u)
		wantNoUnits(t, api.ErrTextPair, 0x61, 0xD83D, u)
	}
	for _, l := range [][]int{
		{0xD800}, {0xDBFF}, {0xDC00}, {0xDFFF}, {0x61, 0xDBFF}, {0x61, 0xDC00},
		{0xDE00, 0xD83D}, {0xDE00, 0xD83D, 0xDE00}, {0xD83D, 0xD83D, 0xDE00}, {0xD83D, 0xDE00, 0xDE00}, {0xD83D, 0xDE00, 0xD83D},
		{0xD83D, 0x61, 0xDE00}, {0xD83D, 0xD83D}, {0xDE00, 0xDE00}, {0xD83D, 0xDBFF}, {0xD83D, 0xE000}, {0xD83D, 0xD7FF}, {0xDBFF, 0},
	} {
		wantNoUnits(t, api.ErrTextPair, l...)
	}
}

// Each unit alone, and behind and ahead of ones of each kind.
func TestEachUnit(t *testing.T) {
	for u := range 0x10000 {
		high, low := u >= 0xD800 && u <= 0xDBFF, u >= 0xDC00 && u <= 0xDFFF
		switch {
		case high:
			wantNoUnits(t, api.ErrTextPair, u)
			wantNoUnits(t, api.ErrTextPair, u, 'a')
			wantNoUnits(t, api.ErrTextPair, 'a', u)
			wantRunes(t, string(utf16.DecodeRune(rune(u), 0xDC00)), u, 0xDC00)
			wantRunes(t, string(utf16.DecodeRune(rune(u), 0xDFFF))+"a", u, 0xDFFF, 'a')
		case low:
			wantNoUnits(t, api.ErrTextPair, u)
			wantNoUnits(t, api.ErrTextPair, u, 'a')
			wantNoUnits(t, api.ErrTextPair, 'a', u)
			wantRunes(t, string(utf16.DecodeRune(0xD800, rune(u))), 0xD800, u)
			wantRunes(t, "a"+string(utf16.DecodeRune(0xDBFF, rune(u))), 'a', 0xDBFF, u)
		default:
			wantRunes(t, string(rune(u)), u)
			wantNoUnits(t, api.ErrTextPair, 0xD83D, u)
			wantNoUnits(t, api.ErrTextPair, u, 0xDE00)
		}
	}
}

// What FromUnits takes comes to the same units again, and what it refuses is no units of any runes.
func TestUnitsComeAgain(t *testing.T) {
	some := []int{'a', 0x80, 0xD7FF, 0xD800, 0xDBFF, 0xDC00, 0xDFFF, 0xE000, 0xFFFD, 0xFFFF, 0x10000, -1}
	for i := range 12 * 12 * 12 * 12 {
		l := []int{some[i%12], some[i/12%12], some[i/144%12], some[i/1728]}
		for n := range 5 {
			s, e := text.FromUnits(l[:n])
			if want := unitsError(l[:n]); e != want {
				t.Errorf("FromUnits(%x): %d, not %d", l[:n], e, want)
			}
			if back, e2 := text.Units(s); e == api.OK && (e2 != api.OK || !slices.Equal(back, l[:n])) {
				t.Errorf("Units(FromUnits(%x)): %x, %d", l[:n], back, e2)
			} else if e != api.OK && s != "" {
				t.Errorf("FromUnits(%x): %q beside %d", l[:n], s, e)
			}
		}
	}
}

// unitsError says it once more, by what stands beside each unit.
func unitsError(l []int) api.Errno {
	is := func(i, from, to int) bool { return i >= 0 && i < len(l) && l[i] >= from && l[i] <= to }
	for i := range l {
		switch {
		case !is(i, 0, 0xFFFF):
			return api.ErrTextUnit
		case is(i, 0xDC00, 0xDFFF) && !is(i-1, 0xD800, 0xDBFF), is(i, 0xD800, 0xDBFF) && !is(i+1, 0xDC00, 0xDFFF):
			return api.ErrTextPair
		}
	}
	return api.OK
}

// R4: what is handed in stays as it is, the room behind it too; what is answered is new.
func TestUnitsMemory(t *testing.T) {
	room := []int{0xD83D, 0xDE00, 'b', 7, 7, 7}
	for n := range 4 {
		text.FromUnits(room[:n])
	}
	if !slices.Equal(room, []int{0xD83D, 0xDE00, 'b', 7, 7, 7}) {
		t.Errorf("what was handed in is %x", room)
	}
	a, _ := text.Units("abc")
	b, _ := text.Units("abc")
	for i := range a[:cap(a)] {
		a[:cap(a)][i] = -1
	}
	_ = append(a, -1)
	c, _ := text.Units("abc")
	for _, l := range [][]int{b, c} {
		if !slices.Equal(l, []int{'a', 'b', 'c'}) {
			t.Errorf("an answer is %x, behind a change of another one", l)
		}
	}
}

func TestManyUnits(t *testing.T) {
	s := strings.Repeat("a\xf0\x9f\x98\x80\xe2\x82\xac", 1<<17)
	l, e := text.Units(s)
	if e != api.OK || len(l) != 4<<17 || l[len(l)-1] != 0x20AC {
		t.Error(len(l), e)
	}
	if back, e := text.FromUnits(l); back != s || e != api.OK {
		t.Error(len(back), e)
	}
	wantNoUtf(t, s+"\xff")
	wantNoUnits(t, api.ErrTextPair, append(l, 0xD800)...)
}

func TestSame(t *testing.T) {
	all := []string{"", "\x00", "\x00\x00", "a", "ab", "ac", "bb", "a\x00", "\x00a", "aba", "\x01", "\x80", "\xff", "\xc3\xa9", "\xc9", strings.Repeat("x", 256), strings.Repeat("\x00", 256), noise(1000)}
	for _, a := range all {
		for _, b := range all {
			if text.Same(a, b) != (a == b) {
				t.Errorf("Same(%q, %q)", a, b)
			}
		}
		if !text.Same(a, string([]byte(a))) {
			t.Errorf("Same(%q, its copy)", a)
		}
	}
	s := noise(300)
	for i := range s {
		for bit := range 8 {
			b := []byte(s)
			b[i] ^= 1 << bit
			if text.Same(s, string(b)) || text.Same(string(b), s) {
				t.Errorf("Same with bit %d of byte %d turned", bit, i)
			}
		}
		if text.Same(s, s[:i]) || text.Same(s[:i], s) || text.Same(s, s[i+1:]) {
			t.Errorf("Same with another length at %d", i)
		}
	}
}

// Differences must not take each other away, nor a difference of the lengths that of the bytes.
func TestSameOfManyDifferences(t *testing.T) {
	for _, x := range [][2]string{{"aa", "bb"}, {"ab", "ba"}, {"\x01\xff", "\x02\xfc"}, {"\x00\x80\x80", "\x00\x00\x00"}, {"aaaa", "bbbb"}, {"\x01\x01", "\x00"}, {"\x01", ""}, {"\x03\x01\x00", ""}, {"ab", "a"}, {"abc", "b"}} {
		if text.Same(x[0], x[1]) || text.Same(x[1], x[0]) {
			t.Errorf("Same(%q, %q)", x[0], x[1])
		}
	}
}
