package text_test

// P1.3 and P1.4 of cursors.

import (
	"math"
	"strings"
	"testing"

	"ostiary/api"
	"ostiary/text"
)

func wantAt(t *testing.T, c *text.Cursor, at, left int) {
	t.Helper()
	if c.At() != at || c.Left() != left {
		t.Errorf("at %d with %d left, not at %d with %d", c.At(), c.Left(), at, left)
	}
}

func wantByte(t *testing.T, c *text.Cursor, want byte, e api.Errno) {
	t.Helper()
	if b, x := c.Byte(); b != want || x != e {
		t.Errorf("Byte: %d, %d, not %d, %d", b, x, want, e)
	}
}

func wantTake(t *testing.T, c *text.Cursor, n int, want string, e api.Errno) {
	t.Helper()
	if s, x := c.Take(n); s != want || x != e {
		t.Errorf("Take(%d): %q, %d, not %q, %d", n, s, x, want, e)
	}
}

func wantUntil(t *testing.T, c *text.Cursor, b byte, want string, e api.Errno) {
	t.Helper()
	if s, x := c.Until(b); s != want || x != e {
		t.Errorf("Until(%d): %q, %d, not %q, %d", b, s, x, want, e)
	}
}

func wantWithin(t *testing.T, c *text.Cursor, n int) *text.Cursor {
	t.Helper()
	d, e := c.Within(n)
	if d == nil || e != api.OK {
		t.Fatalf("Within(%d): %v, %d", n, d, e)
	}
	wantAt(t, d, 0, n)
	return d
}

func wantNotWithin(t *testing.T, c *text.Cursor, n int, e api.Errno) {
	t.Helper()
	if d, x := c.Within(n); d != nil || x != e {
		t.Errorf("Within(%d): %v, %d, not %d", n, d, x, e)
	}
}

// wantRest takes all that is left.
func wantRest(t *testing.T, c *text.Cursor, want string) {
	t.Helper()
	at := c.At()
	wantTake(t, c, len(want), want, api.OK)
	wantAt(t, c, at+len(want), 0)
}

func TestCursorExample(t *testing.T) {
	c := text.Open("ab,cd")
	wantAt(t, c, 0, 5)
	wantUntil(t, c, 44, "ab", api.OK)
	wantAt(t, c, 3, 2)
	wantUntil(t, c, 44, "", api.ErrTextNone)
	wantAt(t, c, 3, 2)
	d := wantWithin(t, c, 1)
	wantByte(t, c, 'd', api.OK)
	wantByte(t, c, 0, api.ErrTextEnd)
	wantTake(t, c, -1, "", api.ErrTextSize)
	wantRest(t, d, "c")
}

func TestCursorBytes(t *testing.T) {
	var all []byte
	for i := range 256 {
		all = append(all, byte(i))
	}
	c := text.Open(string(all))
	for i := range 256 {
		wantAt(t, c, i, 256-i)
		wantByte(t, c, byte(i), api.OK)
	}
	for range 2 {
		wantByte(t, c, 0, api.ErrTextEnd)
		wantAt(t, c, 256, 0)
	}
}

// refuseAll: a cursor refuses what it must, and stands where it stood.
func refuseAll(t *testing.T, c *text.Cursor, absent byte) {
	t.Helper()
	at, left := c.At(), c.Left()
	for _, n := range []int{-1, -2, -left - 1, math.MinInt, math.MinInt + 1, -1 << 32} {
		wantTake(t, c, n, "", api.ErrTextSize)
		wantNotWithin(t, c, n, api.ErrTextSize)
		wantAt(t, c, at, left)
	}
	for _, n := range []int{left + 1, left + 2, at + left + 1, math.MaxInt, math.MaxInt - at, math.MaxInt - at + 1, 1 << 32, 1<<32 + left} {
		if n > left {
			wantTake(t, c, n, "", api.ErrTextEnd)
			wantNotWithin(t, c, n, api.ErrTextEnd)
			wantAt(t, c, at, left)
		}
	}
	wantUntil(t, c, absent, "", api.ErrTextNone)
	wantAt(t, c, at, left)
	if left == 0 {
		wantByte(t, c, 0, api.ErrTextEnd)
		wantAt(t, c, at, 0)
	}
}

func TestCursorRefuses(t *testing.T) {
	for _, s := range []string{"", "a", "abcdefgh"} {
		c := text.Open(s)
		for i := range len(s) {
			refuseAll(t, c, '!')
			wantByte(t, c, s[i], api.OK)
		}
		refuseAll(t, c, '!')
	}
}

// At its end a cursor still takes no bytes, and has a cursor over none.
func TestCursorAtItsEnd(t *testing.T) {
	for _, s := range []string{"", "abc"} {
		c := text.Open(s)
		wantTake(t, c, len(s), s, api.OK)
		wantTake(t, c, 0, "", api.OK)
		d := wantWithin(t, c, 0)
		wantAt(t, c, len(s), 0)
		refuseAll(t, c, 'a')
		refuseAll(t, d, 'a')
		wantRest(t, c.Clone(), "")
	}
}

func TestCursorTakes(t *testing.T) {
	s := noise(60)
	for from := range len(s) + 1 {
		for n := range len(s) - from + 1 {
			c := text.Open(s)
			wantTake(t, c, from, s[:from], api.OK)
			wantTake(t, c, n, s[from:from+n], api.OK)
			wantAt(t, c, from+n, len(s)-from-n)
			wantRest(t, c, s[from+n:])
		}
	}
}

func TestCursorUntil(t *testing.T) {
	c := text.Open(",a,,bc,d\x00e\xff")
	wantUntil(t, c, ',', "", api.OK)
	wantAt(t, c, 1, 10)
	wantUntil(t, c, ',', "a", api.OK)
	wantUntil(t, c, ',', "", api.OK)
	wantAt(t, c, 4, 7)
	wantUntil(t, c, 'a', "", api.ErrTextNone) // behind it alone
	wantUntil(t, c, 0, "bc,d", api.OK)
	wantUntil(t, c, ',', "", api.ErrTextNone)
	wantAt(t, c, 9, 2)
	wantUntil(t, c.Clone(), 'e', "", api.OK)
	wantUntil(t, c, 0xFF, "e", api.OK)
	wantAt(t, c, 11, 0)
	wantUntil(t, c, 0xFF, "", api.ErrTextNone)
	d := text.Open("\xc3\xa9")
	wantUntil(t, d, 0xE9, "", api.ErrTextNone) // a byte, not a rune
	wantUntil(t, d, 0xA9, "\xc3", api.OK)
	for b := range 256 {
		s := strings.Repeat(string([]byte{byte(b + 1)}), 40) + string([]byte{byte(b)})
		c := text.Open(s + s)
		wantUntil(t, c, byte(b), s[:40], api.OK)
		wantRest(t, c, s)
	}
}

func TestCursorWithin(t *testing.T) {
	s := "(one)(two)rest"
	c := text.Open(s)
	one, two := wantWithin(t, c, 5), wantWithin(t, c, 5)
	wantAt(t, c, 10, 4)
	// One within goes no farther than it may, though more stands behind it.
	wantUntil(t, one, 't', "", api.ErrTextNone)
	wantTake(t, one, 6, "", api.ErrTextEnd)
	refuseAll(t, one, 't')
	wantTake(t, one, 1, "(", api.OK)
	inner := wantWithin(t, one, 3)
	refuseAll(t, inner, ')')
	wantByte(t, one, ')', api.OK)
	wantRest(t, inner, "one")
	refuseAll(t, inner, 'o')
	refuseAll(t, one, '(')
	wantAt(t, one, 5, 0)
	wantByte(t, two, '(', api.OK)
	wantUntil(t, two, ')', "two", api.OK)
	wantAt(t, two, 5, 0)
	wantAt(t, c, 10, 4)
	wantRest(t, c, "rest")
	all := wantWithin(t, text.Open(s), len(s))
	wantRest(t, all, s)
}

// Each cursor within tells just those bytes, and the other one goes on right behind them.
func TestCursorWithinEachPart(t *testing.T) {
	s := noise(40)
	for from := range len(s) + 1 {
		for n := range len(s) - from + 1 {
			c := text.Open(s)
			wantTake(t, c, from, s[:from], api.OK)
			d := wantWithin(t, c, n)
			wantAt(t, c, from+n, len(s)-from-n)
			wantRest(t, d, s[from:from+n])
			wantByte(t, d, 0, api.ErrTextEnd)
			wantTake(t, d, 1, "", api.ErrTextEnd)
			wantRest(t, c, s[from+n:])
		}
	}
}

func TestCursorClone(t *testing.T) {
	c := text.Open("abcdef")
	wantTake(t, c, 2, "ab", api.OK)
	d := c.Clone()
	wantAt(t, d, 2, 4)
	wantTake(t, c, 1, "c", api.OK)
	wantAt(t, d, 2, 4)
	wantTake(t, d, 3, "cde", api.OK)
	wantAt(t, c, 3, 3)
	e := d.Clone()
	wantRest(t, d, "f")
	wantByte(t, e, 'f', api.OK)
	wantAt(t, e, 6, 0)
	wantRest(t, c, "def")
	inner := wantWithin(t, text.Open("xyz"), 2)
	wantByte(t, inner, 'x', api.OK)
	twin := inner.Clone()
	wantAt(t, twin, 1, 1)
	wantTake(t, twin, 2, "", api.ErrTextEnd)
	wantRest(t, twin, "y")
	wantRest(t, inner, "y")
}

// Two cursors over the same bytes, and their own ones within, know nothing of each other.
func TestCursorsApart(t *testing.T) {
	s := "a,b,c"
	c, d := text.Open(s), text.Open(s)
	wantUntil(t, c, ',', "a", api.OK)
	wantAt(t, d, 0, 5)
	wantTake(t, d, 5, s, api.OK)
	wantRest(t, c, "b,c")
}

// model is a cursor as the document says it: bytes and a place.
type model struct {
	s  string
	at int
}

func (m *model) take(n int) (string, api.Errno) {
	switch left := m.s[m.at:]; {
	case n < 0:
		return "", api.ErrTextSize
	case len(left) < n:
		return "", api.ErrTextEnd
	default:
		m.at += n
		return left[:n], api.OK
	}
}

func (m *model) until(b byte) (string, api.Errno) {
	for i := m.at; i < len(m.s); i++ {
		if m.s[i] == b {
			s := m.s[m.at:i]
			m.at = i + 1
			return s, api.OK
		}
	}
	return "", api.ErrTextNone
}

// Many calls one behind the other, on cursors that come out of one another, against the model.
func TestCursorHistories(t *testing.T) {
	const histories, length = 300, 500
	stream := noise(histories * length)
	for i := range histories {
		part := stream[length*i : length*(i+1)]
		history(t, letters(part[:i%90]), part[90:])
	}
}

// letters are few, so that what is looked for is often there, and often not.
func letters(s string) string {
	b := []byte(s)
	for i := range b {
		b[i] = 'a' + b[i]%5
	}
	return string(b)
}

func history(t *testing.T, bytes, play string) {
	t.Helper()
	real, said := []*text.Cursor{text.Open(bytes)}, []*model{{s: bytes}}
	for i := 0; i+2 < len(play); i += 3 {
		k := int(play[i]) % len(real)
		c, m, n := real[k], said[k], int(play[i+1])%9-1
		switch play[i+2] % 5 {
		case 0:
			want, e := m.take(1)
			wantByte(t, c, (want + "\x00")[0], e)
		case 1:
			want, e := m.take(n)
			wantTake(t, c, n, want, e)
		case 2:
			b := byte('a' + (n+1)%6)
			want, e := m.until(b)
			wantUntil(t, c, b, want, e)
		case 3:
			want, e := m.take(n)
			if e != api.OK {
				wantNotWithin(t, c, n, e)
				break
			}
			real, said = append(real, wantWithin(t, c, n)), append(said, &model{s: want})
		case 4:
			twin := *m
			real, said = append(real, c.Clone()), append(said, &twin)
		}
		for k, m := range said {
			wantAt(t, real[k], m.at, len(m.s)-m.at)
		}
	}
	for k, m := range said {
		wantRest(t, real[k], m.s[m.at:])
	}
}

func TestCursorOverManyBytes(t *testing.T) {
	s := strings.Repeat("0123456789abcde,", 1<<16)
	c := text.Open(s)
	for range 1 << 16 {
		d := wantWithin(t, c, 16)
		wantUntil(t, d, ',', "0123456789abcde", api.OK)
	}
	wantAt(t, c, 1<<20, 0)
	whole := text.Open(s)
	wantTake(t, whole, 1<<20, s, api.OK)
	wantTake(t, whole, 0, "", api.OK)
}
