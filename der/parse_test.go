package der_test

// P6.2: Parse.

import (
	"strings"
	"testing"

	"ostiary/api"
)

func TestParseExamples(t *testing.T) {
	wantForm(t, prim(api.DerInt, "\x05"), hexed("02 01 05"))
	wantForm(t, seq(prim(api.DerInt, "\x05")), hexed("30 03 02 01 05"))
	for h, e := range map[string]api.Errno{
		"30 80": api.ErrDerForm, "30 81 03 02 01 05": api.ErrDerForm,
		"": api.ErrDerEnd, "02": api.ErrDerEnd, "02 02 05": api.ErrDerEnd, "02 01 05 00": api.ErrDerMore,
		"1f 00": api.ErrDerTag, "08 00": api.ErrDerTag, "22 00": api.ErrDerForm, "10 00": api.ErrDerForm,
		"02 02 00 05": api.ErrDerForm, "01 01 01": api.ErrDerForm, "03 01 01": api.ErrDerForm, "03 02 01 01": api.ErrDerForm,
		"06 01 80": api.ErrDerForm, "31 06 02 01 02 02 01 01": api.ErrDerForm,
	} {
		wantNone(t, hexed(h), e)
	}
}

// What is wrong is told in the order in which it is read.
func TestParseOrder(t *testing.T) {
	for h, e := range map[string]api.Errno{
		// The tag, ahead of all else.
		"1f": api.ErrDerTag, "3f": api.ErrDerTag, "5f 80": api.ErrDerTag, "ff ff": api.ErrDerTag, "bf": api.ErrDerTag,
		"00 00": api.ErrDerTag, "00": api.ErrDerTag, "20": api.ErrDerTag, "07": api.ErrDerTag, "09 80": api.ErrDerTag, "2a": api.ErrDerTag, "0a 01 00": api.ErrDerTag,
		"1e 00": api.ErrDerTag, "14 01 41": api.ErrDerTag, "12": api.ErrDerTag, "15": api.ErrDerTag, "19": api.ErrDerTag, "1a": api.ErrDerTag, "1b": api.ErrDerTag, "1c": api.ErrDerTag, "1d": api.ErrDerTag, "0b": api.ErrDerTag, "0d": api.ErrDerTag, "0e": api.ErrDerTag, "0f": api.ErrDerTag, "3e": api.ErrDerTag,
		// Primitive or constructed, ahead of the length.
		"21": api.ErrDerForm, "22": api.ErrDerForm, "25 80": api.ErrDerForm, "10": api.ErrDerForm, "11": api.ErrDerForm, "38": api.ErrDerForm, "33 ff": api.ErrDerForm,
		// The length: none, a wrong one, one that is cut off, one that has a shorter form.
		"04": api.ErrDerEnd, "a0": api.ErrDerEnd, "30": api.ErrDerEnd,
		"04 80": api.ErrDerForm, "04 80 00 00": api.ErrDerForm, "a0 80 00 00": api.ErrDerForm, "04 83": api.ErrDerForm, "04 84 00 00 00 00": api.ErrDerForm, "04 ff": api.ErrDerForm, "04 83 00 00 80": api.ErrDerForm,
		"04 81": api.ErrDerEnd, "04 82": api.ErrDerEnd, "04 82 00": api.ErrDerEnd, "04 82 ff": api.ErrDerEnd, "30 82 00": api.ErrDerEnd,
		"04 81 00": api.ErrDerForm, "04 81 7f": api.ErrDerForm, "04 81 80": api.ErrDerEnd, "04 81 ff 00": api.ErrDerEnd,
		"04 82 00 00": api.ErrDerForm, "04 82 00 ff": api.ErrDerForm, "04 82 01 00": api.ErrDerEnd, "04 82 ff ff": api.ErrDerEnd, "30 81 01 ff": api.ErrDerForm,
		"04 01": api.ErrDerEnd, "04 7f 00": api.ErrDerEnd, "30 01": api.ErrDerEnd,
		// Too few bytes, ahead of those that are wrong.
		"02 03 00 05": api.ErrDerEnd, "01 02 01": api.ErrDerEnd, "30 04 1f 00 00": api.ErrDerEnd, "05 01": api.ErrDerEnd,
		// Wrong bytes, ahead of more of them.
		"05 01 00 00": api.ErrDerForm, "02 00 00": api.ErrDerForm, "01 01 02 05": api.ErrDerForm,
		"05 00 00": api.ErrDerMore, "05 00 05 00": api.ErrDerMore, "30 00 1f": api.ErrDerMore, "a0 02 05 00 80": api.ErrDerMore,
		// Elements: the first of them that is wrong, then the order, then what is behind.
		"30 02 02 01": api.ErrDerEnd, "30 01 02": api.ErrDerEnd, "30 02 02 01 05": api.ErrDerEnd, "30 03 05 00 05": api.ErrDerEnd, "30 04 05 00 04 01 41": api.ErrDerEnd,
		"30 03 05 00 1f": api.ErrDerTag, "30 04 08 00 02 00": api.ErrDerTag, "30 04 02 00 08 00": api.ErrDerForm, "30 05 30 03 05 00 08": api.ErrDerTag,
		"30 04 30 03 05 00": api.ErrDerEnd, "30 06 30 05 05 00 05 00": api.ErrDerEnd,
		"31 05 05 00 02 01 61": api.ErrDerForm, "31 06 05 00 02 01 61 07": api.ErrDerTag, "31 05 05 00 02 01 61 00": api.ErrDerForm,
		"30 08 31 05 05 00 02 01 61 07": api.ErrDerForm, "31 08 31 05 05 00 02 01 61 07": api.ErrDerForm, "31 05 05 00 02 02 61": api.ErrDerEnd,
	} {
		wantNone(t, hexed(h), e)
	}
}

func TestParseDeep(t *testing.T) {
	for _, first := range []string{"\x30", "\x31", "\xa0", "\x7e"} {
		deep := ""
		for range 16 {
			deep = first + string([]byte{byte(len(deep))}) + deep
		}
		wantAsModel(t, deep)
		wantNone(t, first+"\x20"+deep, api.ErrDerDeep)
		// Where it is too deep, neither the length nor what follows counts; the tag and the kind do.
		for within, e := range map[string]api.Errno{
			"\x30": api.ErrDerDeep, "\xa0\x80": api.ErrDerDeep, "\x31\xff": api.ErrDerDeep,
			"\xbf": api.ErrDerTag, "\x27": api.ErrDerTag, "\x22": api.ErrDerForm, "\x10": api.ErrDerForm,
			"\x05": api.ErrDerEnd, "\x05\x01\x00": api.ErrDerForm, "\x05\x00": api.OK, "\x82\x01a": api.OK,
		} {
			s := within
			for range 16 {
				s = first + string([]byte{byte(len(s))}) + s
			}
			if e == api.OK {
				wantAsModel(t, s)
			} else {
				wantNone(t, s, e)
			}
		}
		wantNone(t, strings.Repeat(first+"\x80", 17), api.ErrDerForm)
	}
}

func TestParseLong(t *testing.T) {
	wantForm(t, octets(16380), "\x04\x82\x3f\xfc"+strings.Repeat("o", 16380))
	for _, s := range []string{"\x04\x82\x3f\xfd" + strings.Repeat("o", 16381), strings.Repeat("\x1f", 16385), strings.Repeat("\x05\x00", 1<<19), "\x05\x00" + strings.Repeat("\x00", 16383)} {
		wantNone(t, s, api.ErrDerLong)
	}
	wantNone(t, strings.Repeat("\x1f", 16384), api.ErrDerTag)
	wantNone(t, "\x05\x00"+strings.Repeat("\x00", 16382), api.ErrDerMore)
	wantNone(t, "\x30\x82\x40\x00"+strings.Repeat("\x00", 16380), api.ErrDerEnd)
}

// All texts of up to two bytes, all of three and four out of bytes that say something.
func TestParseShort(t *testing.T) {
	wantAsModel(t, "")
	for a := range 256 {
		wantAsModel(t, string([]byte{byte(a)}))
		for b := range 256 {
			wantAsModel(t, string([]byte{byte(a), byte(b)}))
		}
	}
	const some = "\x00\x01\x02\x03\x05\x06\x0c\x10\x1f\x30\x31\x7f\x80\x81\x82\x83\xa0\xff"
	for i := range len(some) * len(some) * len(some) * len(some) {
		s := ""
		for n := i; len(s) < 4; n /= len(some) {
			s += some[n%len(some):][:1]
		}
		wantAsModel(t, s)
		wantAsModel(t, s[:3])
	}
}

// Forms in which something is changed: the answer is the model's.
func TestParseSpoilt(t *testing.T) {
	s := source(11)
	told := map[api.Errno]int{}
	for range 6000 {
		form := modelForm(s.value(s.below(6), 0))
		wantAsModel(t, form)
		for range 8 {
			b := []byte(form)
			at := s.below(len(b))
			switch s.below(4) {
			case 0:
				b[at] ^= 1 << s.below(8)
			case 1:
				b[at] = "\x00\x01\x1f\x30\x31\x7f\x80\x81\x82\xff"[s.below(10)]
			case 2:
				b = append(b[:at], b[at+1:]...)
			case 3:
				b = append(b[:at+1], b[at:]...)
			}
			_, e := modelParse(string(b))
			told[e]++
			wantAsModel(t, string(b))
		}
	}
	for _, e := range []api.Errno{api.OK, api.ErrDerEnd, api.ErrDerForm, api.ErrDerTag, api.ErrDerMore} {
		if told[e] < 10 {
			t.Errorf("%d was told %d times alone", e, told[e])
		}
	}
}
