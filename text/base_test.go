package text_test

// P1.1 and P1.4 of base sixteen and base64url.

import (
	"encoding/base64"
	"encoding/hex"
	"strings"
	"testing"

	"ostiary/api"
	"ostiary/text"
)

// noise is the same bytes on every run, of all values, without a rule that the program could share.
func noise(n int) string {
	b := make([]byte, n)
	x := uint32(2463534242)
	for i := range b {
		x ^= x << 13
		x ^= x >> 17
		x ^= x << 5
		b[i] = byte(x >> 11)
	}
	return string(b)
}

func wantHex(t *testing.T, s, want string) {
	t.Helper()
	if x := text.Hex(s); x != want {
		t.Errorf("Hex(%q): %q, not %q", s, x, want)
	}
	if x, e := text.FromHex(want); x != s || e != api.OK {
		t.Errorf("FromHex(%q): %q, %d, not %q", want, x, e, s)
	}
}

func wantNoHex(t *testing.T, s string) {
	t.Helper()
	if x, e := text.FromHex(s); x != "" || e != api.ErrTextHex {
		t.Errorf("FromHex(%q): %q, %d", s, x, e)
	}
}

func wantBase(t *testing.T, s, want string) {
	t.Helper()
	if x := text.Base64(s); x != want {
		t.Errorf("Base64(%q): %q, not %q", s, x, want)
	}
	if x, e := text.FromBase64(want); x != s || e != api.OK {
		t.Errorf("FromBase64(%q): %q, %d, not %q", want, x, e, s)
	}
}

func wantNoBase(t *testing.T, s string) {
	t.Helper()
	if x, e := text.FromBase64(s); x != "" || e != api.ErrTextBase {
		t.Errorf("FromBase64(%q): %q, %d", s, x, e)
	}
}

func TestHexExamples(t *testing.T) {
	wantHex(t, "\x00\xffa", "00ff61")
	wantHex(t, "", "")
	wantHex(t, "\x01\x23\x45\x67\x89\xab\xcd\xef", "0123456789abcdef")
	for _, s := range []string{"00FF", "0", "000", "0g", "g0", " 00", "00 ", "0x", "00\n", "0a0A", "A0", "0F", "é"} {
		wantNoHex(t, s)
	}
}

// Each text of two bytes is the base sixteen of one byte, or of none.
func TestHexOfEachPair(t *testing.T) {
	const digits = "0123456789abcdef"
	for i := range 1 << 16 {
		s := string([]byte{byte(i >> 8), byte(i)})
		high, low := strings.IndexByte(digits, s[0]), strings.IndexByte(digits, s[1])
		if high < 0 || low < 0 {
			wantNoHex(t, s)
		} else {
			wantHex(t, string([]byte{byte(16*high + low)}), s)
		}
	}
}

// One byte that is no digit spoils the whole, wherever it stands.
func TestHexSpoiltAtEachPlace(t *testing.T) {
	s := []byte(text.Hex(noise(40)))
	for i := range s {
		for _, c := range []byte{'F', 'g', '/', ':', '`', ' ', 0, 255} {
			old := s[i]
			s[i] = c
			wantNoHex(t, string(s))
			s[i] = old
		}
		wantHexLength(t, string(s[:i]))
	}
}

func wantHexLength(t *testing.T, s string) {
	t.Helper()
	if len(s)%2 != 0 {
		wantNoHex(t, s)
	} else if x, e := text.FromHex(s); len(x) != len(s)/2 || e != api.OK {
		t.Errorf("FromHex(%q): %q, %d", s, x, e)
	}
}

func TestHexOfManyBytes(t *testing.T) {
	for _, n := range []int{1, 2, 15, 16, 17, 255, 256, 1000, 1 << 20} {
		s := noise(n)
		if want := hex.EncodeToString([]byte(s)); text.Hex(s) != want {
			t.Errorf("Hex of %d bytes", n)
		} else if x, e := text.FromHex(want); x != s || e != api.OK {
			t.Errorf("FromHex to %d bytes: %d", n, e)
		}
	}
}

func TestBase64Examples(t *testing.T) {
	for s, want := range map[string]string{
		"": "", "f": "Zg", "fo": "Zm8", "foo": "Zm9v", "foob": "Zm9vYg", "fooba": "Zm9vYmE", "foobar": "Zm9vYmFy",
		"\xfb\xff": "-_8", "\x00": "AA", "\x00\x00": "AAA", "\x00\x00\x00": "AAAA", "\xff": "_w", "\xff\xff": "__8", "\xff\xff\xff": "____",
	} {
		wantBase(t, s, want)
	}
	for _, s := range []string{"Zh", "Z", "Zg==", "Zg=", "=", "Zm8=", "+_8", "-/8", "-+8", "Zm9", "Zm9vY", "Zm9vYh", "Zm9vYmF", " Zg", "Zg ", "Zg\n", "Zg\r\n", "Z\ng", "Zm\n9v", "\n", "Zm9v====", "é"} {
		wantNoBase(t, s)
	}
}

func TestBase64OfEachDigit(t *testing.T) {
	const digits = "ABCDEFGHIJKLMNOPQRSTUVWXYZabcdefghijklmnopqrstuvwxyz0123456789-_"
	for c := range 256 {
		for place := range 4 {
			s := []byte("AAAA")
			s[place] = byte(c)
			n := strings.IndexByte(digits, byte(c))
			if n < 0 {
				wantNoBase(t, string(s))
				continue
			}
			bits := n << (18 - 6*place)
			wantBase(t, string([]byte{byte(bits >> 16), byte(bits >> 8), byte(bits)}), string(s))
		}
	}
}

// Of one byte and of two there is just one form each: the last character's bits behind the bytes are 0.
func TestBase64BitsBehind(t *testing.T) {
	const digits = "ABCDEFGHIJKLMNOPQRSTUVWXYZabcdefghijklmnopqrstuvwxyz0123456789-_"
	for _, ahead := range []string{"", "Zm9v", "Zm9vYmFy"} {
		for i := range 64 {
			for _, front := range []string{"A", "Z", "_"} {
				wantBaseJust(t, ahead+front+digits[i:i+1], i%16 == 0)
				wantBaseJust(t, ahead+"A"+front+digits[i:i+1], i%4 == 0)
				wantBaseJust(t, ahead+"AA"+front+digits[i:i+1], true)
			}
			wantNoBase(t, ahead+digits[i:i+1])
		}
	}
}

func wantBaseJust(t *testing.T, s string, just bool) {
	t.Helper()
	if !just {
		wantNoBase(t, s)
	} else if x, e := text.FromBase64(s); e != api.OK || text.Base64(x) != s {
		t.Errorf("FromBase64(%q): %q, %d", s, x, e)
	}
}

func TestBase64OfEachLength(t *testing.T) {
	l := []int{1 << 20, 1<<20 + 1, 1<<20 + 2}
	for n := range 70 {
		l = append(l, n)
	}
	for _, n := range l {
		s := noise(n)
		if want := base64.RawURLEncoding.EncodeToString([]byte(s)); text.Base64(s) != want {
			t.Errorf("Base64 of %d bytes", n)
		} else if x, e := text.FromBase64(want); x != s || e != api.OK {
			t.Errorf("FromBase64 to %d bytes: %d", n, e)
		}
	}
}

// One character that is none spoils the whole, wherever it stands; a text that is cut is one, or none.
func TestBase64SpoiltAtEachPlace(t *testing.T) {
	for _, n := range []int{30, 31, 32} {
		s := []byte(text.Base64(noise(n)))
		for i := range s {
			for _, c := range []byte{'+', '/', '=', '\n', '\r', ' ', '.', ',', '@', '[', '`', '{', 0, 127, 128, 255} {
				old := s[i]
				s[i] = c
				wantNoBase(t, string(s))
				s[i] = old
			}
		}
	}
}

// What FromHex and FromBase64 take is written again byte by byte, of each text of three characters out of some.
func TestFromsAreWrittenAgain(t *testing.T) {
	const some = "Af09_-Zz8wQg=+/ \n"
	for i := range len(some) * len(some) * len(some) * len(some) {
		s := string([]byte{some[i%17], some[i/17%17], some[i/289%17], some[i/4913%17]})
		for n := range 5 {
			if x, e := text.FromHex(s[:n]); e == api.OK && text.Hex(x) != s[:n] {
				t.Errorf("FromHex(%q): %q", s[:n], x)
			}
			if x, e := text.FromBase64(s[:n]); e == api.OK && text.Base64(x) != s[:n] {
				t.Errorf("FromBase64(%q): %q", s[:n], x)
			}
		}
	}
}
