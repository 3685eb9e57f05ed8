package der_test

import (
	"encoding/hex"
	"slices"
	"strings"
	"testing"

	"ostiary/api"
	"ostiary/der"
)

// source tells the same numbers on every run.
type source uint64

func (s *source) below(n int) int {
	*s = *s*6364136223846793005 + 1442695040888963407
	return int(uint64(*s)>>33) % n
}

func (s *source) bytes(n int) string {
	b := make([]byte, n)
	for i := range b {
		b[i] = byte(s.below(256))
	}
	return string(b)
}

// hexed are the bytes of base sixteen with blanks between.
func hexed(s string) string {
	b, err := hex.DecodeString(strings.ReplaceAll(s, " ", ""))
	if err != nil {
		panic(err)
	}
	return string(b)
}

// some begins a long text.
func some(s string) string { return s[:min(len(s), 40)] }

func prim(tag int, bytes string) api.Der { return api.Der{Tag: tag, Bytes: bytes} }

func seq(l ...api.Der) api.Der { return api.Der{Tag: api.DerSeq, Cons: true, List: l} }

func set(l ...api.Der) api.Der { return api.Der{Tag: api.DerSet, Cons: true, List: l} }

func null() api.Der { return prim(api.DerNull, "") }

func octets(n int) api.Der { return prim(api.DerOctets, strings.Repeat("o", n)) }

// nested is d within so many values of the class 0 or of others.
func nested(d api.Der, times int) api.Der {
	for i := range times {
		outer := seq(d)
		if i%3 == 1 {
			outer = api.Der{Class: 1 + i%3, Tag: i % 31, Cons: true, List: []api.Der{d}}
		} else if i%3 == 2 {
			outer = set(d)
		}
		d = outer
	}
	return d
}

func same(a, b api.Der) bool {
	return a.Class == b.Class && a.Tag == b.Tag && a.Cons == b.Cons && a.Bytes == b.Bytes && slices.EqualFunc(a.List, b.List, same)
}

func isZero(d api.Der) bool {
	return d.Class == 0 && d.Tag == 0 && !d.Cons && d.Bytes == "" && len(d.List) == 0
}

// wantForm: d may be, its form is that, and is read as d again.
func wantForm(t *testing.T, d api.Der, form string) {
	t.Helper()
	if e := der.Check(d); e != api.OK {
		t.Errorf("Check of %x: %d", some(form), e)
	}
	if s, e := der.Print(d); s != form || e != api.OK {
		t.Errorf("Print: %x, %d, not %x", some(s), e, some(form))
	}
	if x, e := der.Parse(form); !same(x, d) || e != api.OK {
		t.Errorf("Parse(%x): %v, %d", some(form), x, e)
	}
}

// wantBad: Check and Print refuse d.
func wantBad(t *testing.T, what string, d api.Der, e api.Errno) {
	t.Helper()
	if x := der.Check(d); x != e {
		t.Errorf("%s: Check: %d, not %d", what, x, e)
	}
	if s, x := der.Print(d); s != "" || x != e {
		t.Errorf("%s: Print: %x, %d, not %d", what, some(s), x, e)
	}
}

// wantNone: Parse refuses a text.
func wantNone(t *testing.T, s string, e api.Errno) {
	t.Helper()
	if d, x := der.Parse(s); !isZero(d) || x != e {
		t.Errorf("Parse(%x): %v, %d, not %d", some(s), d, x, e)
	}
}

// wantAsModel: Parse tells of a text what the model tells.
func wantAsModel(t *testing.T, s string) {
	t.Helper()
	want, e := modelParse(s)
	if e != api.OK {
		wantNone(t, s, e)
	} else {
		wantForm(t, want, s)
	}
}
