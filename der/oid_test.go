package der_test

// P6.3 and P6.4 of OIDs.

import (
	"encoding/asn1"
	"strconv"
	"strings"
	"testing"

	"ostiary/api"
	"ostiary/der"
)

// wantOid: bytes are those of a text, either way.
func wantOid(t *testing.T, bytes, text string) {
	t.Helper()
	if s, e := der.Oid(prim(api.DerOid, bytes)); s != text || e != api.OK {
		t.Errorf("Oid of %x: %s, %d, not %s", some(bytes), some(s), e, some(text))
	}
	if d, e := der.OfOid(text); !same(d, prim(api.DerOid, bytes)) || e != api.OK {
		t.Errorf("OfOid(%s): %v, %d, not %x", some(text), d, e, some(bytes))
	}
}

func wantNoOid(t *testing.T, text string) {
	t.Helper()
	if d, e := der.OfOid(text); !isZero(d) || e != api.ErrDerForm {
		t.Errorf("OfOid(%s): %v, %d", some(text), d, e)
	}
}

func TestOids(t *testing.T) {
	for text, h := range map[string]string{
		"2.5.29.19": "55 1d 13", "1.2.840.10045.3.1.7": "2a 86 48 ce 3d 03 01 07", "1.2.840.113549.1.1.11": "2a 86 48 86 f7 0d 01 01 0b",
		"0.0": "00", "0.39": "27", "1.0": "28", "1.39": "4f", "2.0": "50", "2.39": "77", "2.40": "78", "2.47": "7f", "2.48": "81 00", "2.999": "88 37", "2.2147483567": "87 ff ff ff 7f",
		"0.0.0": "00 00", "0.1.127": "01 7f", "0.1.128": "01 81 00", "0.1.16383": "01 ff 7f", "0.1.16384": "01 81 80 00", "0.1.2097151": "01 ff ff 7f", "0.1.2097152": "01 81 80 80 00", "0.1.268435455": "01 ff ff ff 7f", "0.1.268435456": "01 81 80 80 80 00", "0.1.2147483647": "01 87 ff ff ff 7f",
		"2.5.4.3.0.10.100": "55 04 03 00 0a 64",
	} {
		wantOid(t, hexed(h), text)
	}
}

func TestNoOids(t *testing.T) {
	for _, s := range []string{
		"", ".", "..", "0", "1", "2", "2.", ".2", "1.2.", ".1.2", "1..2", "1.2..3", "0.40", "1.40", "0.79", "1.41", "1.2147483647", "3.0", "3.1", "4.0", "10.1", "39.1", "40.1", "2.2147483568", "2.2147483647", "2.2147483648", "2147483647.1", "53687091.7",
		"01.2", "1.02", "1.2.00", "1.2.03", "00.1", "1.2.2147483648", "1.2.4294967296", "1.2.4294967297", "1.2.18446744073709551617", "1.2.99999999999999999999999", "0.1.34359738368",
		"-1.2", "1.-2", "1.2.-3", "+1.2", "1.+2", "1.2.+3", "1.2.-0", " 1.2", "1.2 ", "1. 2", "1.2\n", "1.2,3", "1.a", "1.2.0x1", "1.2.1_0", "1.2.1e1", "1.2.\x00", "1.2.３", "a", "1.2.3a", "\xff",
	} {
		wantNoOid(t, s)
	}
}

// All first groups of one byte and of two, and all second numbers of the first three.
func TestFirstGroups(t *testing.T) {
	for first := range 4 {
		for second := range 200 {
			text := strconv.Itoa(first) + "." + strconv.Itoa(second)
			if first > 2 || first < 2 && second > 39 {
				wantNoOid(t, text)
				wantNoOid(t, text+".1")
				continue
			}
			b, err := asn1.Marshal(asn1.ObjectIdentifier{first, second, 1})
			if err != nil {
				t.Fatal(err)
			}
			wantOid(t, string(b[2:len(b)-1]), text)
			wantOid(t, string(b[2:]), text+".1")
		}
	}
}

// Numbers of all sizes, as the library writes them.
func TestOidsAsTheLibrary(t *testing.T) {
	s := source(3)
	for range 20000 {
		id := asn1.ObjectIdentifier{2, s.below(1<<31-1-80) >> s.below(31)}
		for range s.below(6) {
			id = append(id, s.below(1<<31-1)>>s.below(31))
		}
		b, err := asn1.Marshal(id)
		if err != nil {
			t.Fatal(err)
		}
		wantOid(t, string(b[2:]), id.String())
	}
}

// A text whose OID would be too long to be is none.
func TestLongOids(t *testing.T) {
	for _, n := range []int{16379, 16380} {
		wantOid(t, strings.Repeat("\x01", n), "0.1"+strings.Repeat(".1", n-1))
	}
	wantOid(t, strings.Repeat("\x87\xff\xff\xff\x7f", 3276), "2.2147483567"+strings.Repeat(".2147483647", 3275))
	for _, n := range []int{16381, 20000, 1 << 20} {
		wantNoOid(t, "0.1"+strings.Repeat(".1", n-1))
		if s, e := der.Oid(prim(api.DerOid, strings.Repeat("\x01", n))); s != "" || e != api.ErrDerKind {
			t.Errorf("Oid of %d bytes: %s, %d", n, some(s), e)
		}
	}
	wantNoOid(t, strings.Repeat("1", 1<<20))
	wantNoOid(t, strings.Repeat(".", 1<<20))
}
