package cert_test

// P7.2: hosts.

import (
	"strings"
	"testing"

	"ostiary/cert"
)

func wantHost(t *testing.T, s string, want bool) {
	t.Helper()
	if cert.Host(s) != want {
		t.Errorf("Host(%q): %t", s, !want)
	}
}

func TestHosts(t *testing.T) {
	a := strings.Repeat("a", 63)
	for _, s := range []string{"a", "z", "0", "9", "a.b-c.d", "a--b", "0.0.0.0", "1-1", "a" + strings.Repeat("-", 61) + "z", a, a + "." + a, "a." + a, a + ".a", a + "." + a + "." + a + "." + a[:61], strings.Repeat("a.", 126) + "a", "xn--bcher-kva"} {
		wantHost(t, s, true)
	}
	for _, s := range []string{"", ".", "..", "a.", ".a", "a..b", "-a", "a-", "-", "--", "a.-b", "a-.b", "A", "a.B", "*", "*.a", "a_b", "a b", " a", "a ", "a\x00", "a/b", "a:1", "a@b", "é", "a.é", "\xff", "b\xc3\xbccher", "[::1]",
		a + "a", a + "." + a + "a", "a." + a + "a.b", a + "." + a + "." + a + "." + a[:62], a + "." + a + "." + a + "." + a, strings.Repeat("a.", 126) + "aa", strings.Repeat("a.", 127), strings.Repeat("a", 253), strings.Repeat("a.", 1<<20) + "a", strings.Repeat("a", 1<<21)} {
		wantHost(t, s, false)
	}
}

// Each byte at each place, against a pattern.
func TestHostBytes(t *testing.T) {
	for _, of := range []string{"a", "ab", "abc", "a.b", "ab.cd", "a-b.c"} {
		for i := range len(of) {
			for c := range 256 {
				s := of[:i] + string([]byte{byte(c)}) + of[i+1:]
				wantHost(t, s, modelHost(s))
			}
		}
	}
}

// Each text of a few characters, and some long ones, against a pattern.
func TestHostTexts(t *testing.T) {
	const of = "a-.A0"
	texts := []string{""}
	for range 6 {
		for _, s := range texts[len(texts)-min(len(texts), 3125):] {
			for i := range len(of) {
				texts = append(texts, s+of[i:i+1])
			}
		}
	}
	for _, s := range texts {
		wantHost(t, s, modelHost(s))
	}
	r := source(3)
	for range 20000 {
		b := make([]byte, 1+r.below(260))
		for i := range b {
			b[i] = 'a'
			if r.below(30) == 0 {
				b[i] = "..-.-.b9"[r.below(8)]
			}
		}
		wantHost(t, string(b), modelHost(string(b)))
	}
}
