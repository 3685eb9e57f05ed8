package der_test

// P6.1: Check and Print.

import (
	"strconv"
	"strings"
	"testing"

	"ostiary/api"
	"ostiary/der"
)

// Of each class and tag, primitive and constructed, just those of the table may be, all of the other classes.
func TestClassesAndTags(t *testing.T) {
	primitive := map[int]string{1: "\xff", 2: "\x00", 3: "\x00", 4: "", 5: "", 6: "\x00", 12: "é", 19: "A", 22: "@", 23: "991231235959Z", 24: "00000229000000Z"}
	for class := -2; class < 7; class++ {
		for tag := -3; tag < 70; tag++ {
			what := "class " + strconv.Itoa(class) + ", tag " + strconv.Itoa(tag)
			bytes, isPrimitive := primitive[tag]
			isCons := tag == 16 || tag == 17
			p := api.Der{Class: class, Tag: tag, Bytes: bytes}
			c := api.Der{Class: class, Tag: tag, Cons: true}
			switch {
			case class < 0 || class > 3 || tag < 0 || tag > 30 || class == 0 && !isPrimitive && !isCons:
				wantBad(t, what, p, api.ErrDerTag)
				wantBad(t, what, c, api.ErrDerTag)
				// Ahead of all else that is wrong.
				p.List, c.Bytes = []api.Der{{}}, "a"
				wantBad(t, what, p, api.ErrDerTag)
				wantBad(t, what, nested(c, 16), api.ErrDerTag)
			case class == 0 && isPrimitive:
				wantForm(t, p, string([]byte{byte(tag), byte(len(bytes))})+bytes)
				wantBad(t, what, c, api.ErrDerForm)
			case class == 0:
				wantForm(t, c, string([]byte{byte(32 + tag), 0}))
				wantBad(t, what, p, api.ErrDerForm)
			default:
				wantForm(t, p, string([]byte{byte(64*class + tag), byte(len(bytes))})+bytes)
				wantForm(t, c, string([]byte{byte(64*class + 32 + tag), 0}))
			}
		}
	}
	for _, d := range []api.Der{{Class: 1 << 32}, {Class: 1, Tag: 1 << 32}, {Tag: 1<<32 + 5}, {Class: 4, Tag: 5}, {Class: 256}, {Class: -1 << 63}, {Tag: 256 + 5}, {Class: 2, Tag: -1 << 63}} {
		wantBad(t, "a great number", d, api.ErrDerTag)
	}
}

// A primitive value has no elements, a constructed one no bytes, in all classes.
func TestShapes(t *testing.T) {
	for class := range 4 {
		p := api.Der{Class: class, Tag: api.DerOctets, List: []api.Der{null()}}
		wantBad(t, "a primitive one with an element", p, api.ErrDerForm)
		p.List = []api.Der{{Class: 9}}
		wantBad(t, "one with a wrong element", p, api.ErrDerForm)
		c := api.Der{Class: class, Tag: api.DerSeq, Cons: true, Bytes: "\x05\x00"}
		wantBad(t, "a constructed one with bytes", c, api.ErrDerForm)
		wantBad(t, "too deep, too", nested(c, 16), api.ErrDerForm)
	}
	wantForm(t, api.Der{Tag: api.DerOctets, List: []api.Der{}}, "\x04\x00")
}

// The bytes that each tag may have, and some that it may not.
func TestBytes(t *testing.T) {
	for tag, x := range map[int]struct{ may, not []string }{
		api.DerBool: {[]string{"00", "ff"}, []string{"", "01", "fe", "7f", "80", "00 00", "ff ff", "00 ff"}},
		api.DerInt: {
			[]string{"00", "7f", "80", "ff", "00 80", "00 ff", "ff 7f", "ff 00", "01 00", "7f ff", "80 00", "00 80 00", "ff 7f ff", "fe ff", "01 80"},
			[]string{"", "00 00", "00 7f", "ff 80", "ff ff", "00 00 80", "ff ff 7f", "00 7f ff", "ff 80 00"},
		},
		api.DerBits: {
			[]string{"00", "00 01", "00 ff", "01 fe", "02 fc", "03 f8", "04 f0", "05 e0", "06 c0", "07 80", "07 00", "01 ff fe", "07 ff 80", "00 ff ff", "03 00"},
			[]string{"", "01", "07", "08", "ff", "01 01", "01 ff", "02 02", "03 04", "04 08", "05 10", "06 20", "07 40", "07 c0", "08 00", "09 00", "80 00", "ff 00", "01 fe 01", "07 80 40", "07 01"},
		},
		api.DerOctets: {[]string{"", "00", "ff 80 00"}, nil},
		api.DerNull:   {[]string{""}, []string{"00", "05 00"}},
		api.DerOid: {
			[]string{"00", "7f", "81 00", "ff 7f", "87 ff ff ff 7f", "55 87 ff ff ff 7f", "55 1d 13", "00 81 80 00", "ff ff ff 7f"},
			[]string{"", "80", "ff", "80 01", "55 80", "55 80 01", "55 80 80 01", "55 81", "81 80", "55 88 80 80 80 00", "88 80 80 80 00", "8f ff ff ff 7f", "81 80 80 80 80 00", "ff ff ff ff 7f", "81 80 80 80 80", "90 80 80 80 00", "55 80 00"},
		},
		api.DerUtf8: {
			[]string{"", "00", "41 7f", "c3 a9", "e2 82 ac", "f0 9f 98 80", "f4 8f bf bf", "ed 9f bf", "ef bf bd"},
			[]string{"80", "c3", "c0 80", "ed a0 80", "f4 90 80 80", "e2 82", "ff", "41 c3", "c3 a9 a9"},
		},
		api.DerUtc:  {[]string{"30 30 30 31 30 31 30 30 30 30 30 30 5a"}, []string{"", "5a", "30 30 30 31 30 31 30 30 30 30 30 30"}},
		api.DerTime: {[]string{"30 30 30 30 30 31 30 31 30 30 30 30 30 30 5a"}, []string{"", "30 30 30 31 30 31 30 30 30 30 30 30 5a"}},
	} {
		for _, h := range x.may {
			s := hexed(h)
			wantForm(t, prim(tag, s), string([]byte{byte(tag), byte(len(s))})+s)
		}
		for _, h := range x.not {
			s := hexed(h)
			wantBad(t, "tag "+strconv.Itoa(tag)+", "+h, prim(tag, s), api.ErrDerForm)
			wantNone(t, string([]byte{byte(tag), byte(len(s))})+s, api.ErrDerForm)
			// Of another class they are as good as any.
			wantForm(t, api.Der{Class: 2, Tag: tag, Bytes: s}, string([]byte{byte(128 + tag), byte(len(s))})+s)
		}
	}
}

// Each byte that a text may have, at each place.
func TestTexts(t *testing.T) {
	const printable = "ABCDEFGHIJKLMNOPQRSTUVWXYZabcdefghijklmnopqrstuvwxyz0123456789 '()+,-./:=?"
	for c := range 256 {
		one := string([]byte{byte(c)})
		for _, s := range []string{one, one + "bc", "a" + one + "c", "ab" + one} {
			for tag, may := range map[int]bool{api.DerPrintable: strings.Contains(printable, one), api.DerIa5: c < 128, api.DerUtf8: c < 128, api.DerOctets: true} {
				if may {
					wantForm(t, prim(tag, s), string([]byte{byte(tag), byte(len(s))})+s)
				} else {
					wantBad(t, strconv.Quote(s), prim(tag, s), api.ErrDerForm)
				}
			}
		}
	}
	for _, tag := range []int{api.DerPrintable, api.DerIa5} {
		wantForm(t, prim(tag, ""), string([]byte{byte(tag), 0}))
		wantBad(t, "é", prim(tag, "é"), api.ErrDerForm)
	}
}

// The length is told in as few bytes as may be, up to the longest form.
func TestLengths(t *testing.T) {
	for n := range 16381 {
		head := []byte{byte(n)}
		if n > 255 {
			head = []byte{130, byte(n >> 8), byte(n)}
		} else if n > 127 {
			head = []byte{129, byte(n)}
		}
		if n < 600 || n%97 == 0 || n > 16370 {
			o := octets(n)
			wantForm(t, o, "\x04"+string(head)+o.Bytes)
			c := api.Der{Class: 3, Tag: 30, Cons: true, List: []api.Der{o}}
			if form, e := der.Print(o); e == api.OK && len(form) <= 16380 {
				wantForm(t, c, modelForm(c))
			}
		}
	}
}

// A form of 16384 bytes may be, a longer one not; what else is wrong, wherever it stands, is told ahead of that.
func TestLong(t *testing.T) {
	for _, n := range []int{16381, 16382, 20000, 65534, 65535} {
		wantBad(t, "octets", octets(n), api.ErrDerLong)
		wantBad(t, "octets within", nested(octets(n), 3), api.ErrDerLong)
		wantBad(t, "a null behind", seq(octets(n), null()), api.ErrDerLong)
		wantBad(t, "a wrong tag behind", seq(octets(n), api.Der{}), api.ErrDerTag)
		wantBad(t, "a wrong integer behind", seq(octets(n), seq(prim(api.DerInt, ""))), api.ErrDerForm)
		wantBad(t, "a set without order behind", seq(octets(n), set(null(), prim(api.DerInt, "a"))), api.ErrDerForm)
		wantBad(t, "in order", set(prim(api.DerInt, "a"), octets(n), null()), api.ErrDerLong)
		wantBad(t, "not in order", set(prim(api.DerInt, "a"), null(), octets(n)), api.ErrDerForm)
		wantBad(t, "two not in order", set(octets(n), prim(api.DerOctets, strings.Repeat("n", n))), api.ErrDerForm)
		wantBad(t, "bits that do not fit", prim(api.DerBits, "\x01"+strings.Repeat("\x01", n)), api.ErrDerForm)
	}
	for _, n := range []int{65536, 70000, 1 << 20, 1<<20 + 1<<17} {
		wantBad(t, "octets", octets(n), api.ErrDerLong)
		wantBad(t, "octets within", seq(seq(octets(n))), api.ErrDerLong)
		wantBad(t, "a wrong tag behind", seq(octets(n), api.Der{}), api.ErrDerTag)
		wantBad(t, "a set without order behind", seq(octets(n), set(null(), prim(api.DerInt, "a"))), api.ErrDerForm)
		wantBad(t, "a set with a wrong tag", set(octets(n), null(), api.Der{}), api.ErrDerTag)
	}
	// The longest that a length can tell, and what is within it.
	wantBad(t, "elements of 65535 bytes, in order", set(null(), seq(octets(65531))), api.ErrDerLong)
	wantBad(t, "elements of 65535 bytes, not in order", set(seq(octets(65531)), null()), api.ErrDerForm)
	nulls := make([]api.Der, 8190)
	for i := range nulls {
		nulls[i] = null()
	}
	wantForm(t, seq(nulls...), "\x30\x82\x3f\xfc"+strings.Repeat("\x05\x00", 8190))
	wantForm(t, set(nulls...), "\x31\x82\x3f\xfc"+strings.Repeat("\x05\x00", 8190))
	wantBad(t, "one null more", seq(append(nulls, null())...), api.ErrDerLong)
	wantBad(t, "one null more, in a set", set(append(nulls, null())...), api.ErrDerLong)
	for _, n := range []int{32767, 32768, 40000} {
		many := make([]api.Der, n)
		for i := range many {
			many[i] = null()
		}
		wantBad(t, "many nulls", seq(many...), api.ErrDerLong)
		wantBad(t, "many nulls in a set", set(many...), api.ErrDerLong)
		many[n-1].Bytes = "a"
		wantBad(t, "the last one is wrong", seq(many...), api.ErrDerForm)
		many[n-1] = prim(api.DerBool, "\x00")
		wantBad(t, "the last one breaks the order", set(many...), api.ErrDerForm)
	}
}

// Sixteen constructed values within one another may be, and any primitive one within them.
func TestDeep(t *testing.T) {
	for n := range 17 {
		for _, d := range []api.Der{null(), octets(3), {Class: 2, Tag: 5, Bytes: "a"}} {
			wantForm(t, nested(d, n), modelForm(nested(d, n)))
		}
	}
	for _, inner := range []api.Der{seq(), set(), {Class: 1, Cons: true}, {Class: 2, Tag: 30, Cons: true}, seq(api.Der{}), set(null(), prim(api.DerInt, "a"))} {
		wantBad(t, "one too deep", nested(inner, 16), api.ErrDerDeep)
		if e := der.Check(nested(inner, 15)); e == api.ErrDerDeep {
			t.Errorf("%v within 15: %d", inner, e)
		}
		for _, n := range []int{17, 18, 100, 60000} {
			wantBad(t, "many too deep", nested(inner, n), api.ErrDerDeep)
		}
	}
	// What is told ahead of that: a tag, elements that a primitive one has.
	wantBad(t, "a primitive sequence", nested(api.Der{Tag: api.DerSeq}, 16), api.ErrDerForm)
	wantBad(t, "a constructed null", nested(api.Der{Tag: api.DerNull, Cons: true}, 16), api.ErrDerForm)
	wantBad(t, "no tag", nested(api.Der{Class: 1, Tag: 31, Cons: true}, 16), api.ErrDerTag)
	wantBad(t, "a wrong integer", nested(prim(api.DerInt, ""), 16), api.ErrDerForm)
}

// The first thing that is wrong decides, each value ahead of its elements, these in their order, then their order.
func TestFirstFault(t *testing.T) {
	tag, form, deep := api.Der{Tag: 7}, prim(api.DerInt, ""), nested(null(), 17)
	wantBad(t, "tag, form", seq(tag, form), api.ErrDerTag)
	wantBad(t, "form, tag", seq(form, tag), api.ErrDerForm)
	wantBad(t, "deep, tag", seq(deep, tag), api.ErrDerDeep)
	wantBad(t, "tag, deep", seq(tag, deep), api.ErrDerTag)
	wantBad(t, "form within, tag", seq(null(), seq(null(), form), tag), api.ErrDerForm)
	wantBad(t, "tag within, form", seq(null(), seq(null(), tag), form), api.ErrDerTag)
	wantBad(t, "bytes ahead of elements", api.Der{Tag: api.DerSeq, Cons: true, Bytes: "a", List: []api.Der{tag}}, api.ErrDerForm)
	unsorted := set(null(), prim(api.DerInt, "a"))
	wantBad(t, "order, tag behind", seq(unsorted, tag), api.ErrDerForm)
	wantBad(t, "tag, order behind", seq(tag, unsorted), api.ErrDerTag)
	wantBad(t, "an element ahead of its set's order", set(null(), prim(api.DerInt, "a"), tag), api.ErrDerTag)
	wantBad(t, "the order within, ahead of the next element", set(null(), unsorted, tag), api.ErrDerForm)
	wantBad(t, "deep in a set", set(null(), prim(api.DerInt, "a"), nested(null(), 17)), api.ErrDerDeep)
}

// A set's elements come by their forms: class and tag, length, bytes; those that are the same may stand together.
func TestSetOrder(t *testing.T) {
	ctx := func(tag int, bytes string) api.Der { return api.Der{Class: 2, Tag: tag, Bytes: bytes} }
	for _, l := range [][]api.Der{
		{}, {null()}, {null(), null(), null()},
		{prim(api.DerInt, "a"), prim(api.DerInt, "b")},
		{prim(api.DerInt, "\xff"), prim(api.DerInt, "aa")},
		{prim(api.DerInt, "\x7f"), prim(api.DerInt, "\x80")},
		{octets(127), prim(api.DerOctets, strings.Repeat("a", 128)), prim(api.DerOctets, strings.Repeat("a", 256))},
		{prim(api.DerBool, "\x00"), prim(api.DerTime, "20000101000000Z"), seq(), set(), {Class: 1}, {Class: 1, Cons: true}, ctx(0, ""), ctx(1, "z"), ctx(1, "aa"), {Class: 3}},
		{set(null()), set(null(), null())},
		{ctx(0, "ab"), ctx(0, "ab"), ctx(0, "ac")},
	} {
		wantForm(t, set(l...), modelForm(set(l...)))
		wantForm(t, seq(set(l...), null()), modelForm(seq(set(l...), null())))
	}
	for _, l := range [][]api.Der{
		{prim(api.DerInt, "b"), prim(api.DerInt, "a")},
		{prim(api.DerInt, "aa"), prim(api.DerInt, "\xff")},
		{prim(api.DerInt, "\x80"), prim(api.DerInt, "\x7f")},
		{null(), prim(api.DerInt, "a")},
		{seq(), prim(api.DerOctets, "z")},
		{{Class: 1, Cons: true}, {Class: 1}},
		{ctx(0, ""), set()},
		{ctx(0, "ac"), ctx(0, "ab")},
		{prim(api.DerOctets, strings.Repeat("a", 128)), octets(127)},
		{prim(api.DerOctets, strings.Repeat("a", 256)), octets(255)},
		{prim(api.DerInt, "a"), prim(api.DerInt, "c"), prim(api.DerInt, "b"), prim(api.DerInt, "d")},
		{set(null(), null()), set(null())},
	} {
		wantBad(t, "a set", set(l...), api.ErrDerForm)
		wantBad(t, "a set within", seq(set(l...), null()), api.ErrDerForm)
		wantNone(t, modelForm(set(l...)), api.ErrDerForm)
		// Nothing else that bears elements has an order.
		for _, d := range []api.Der{seq(l...), {Class: 1, Tag: api.DerSet, Cons: true, List: l}, {Class: 2, Tag: api.DerSet, Cons: true, List: l}, {Class: 3, Tag: api.DerSet, Cons: true, List: l}} {
			wantForm(t, d, modelForm(d))
		}
	}
}

// Values that are made at random, right ones and wrong ones: the answer is the model's.
func TestCheckAsModel(t *testing.T) {
	s := source(7)
	told := map[api.Errno]int{}
	for range 60000 {
		d := s.value(s.below(19), 30)
		want, e := modelPrint(d)
		told[e]++
		if e != api.OK {
			wantBad(t, "a value at random", d, e)
		} else {
			wantForm(t, d, want)
		}
	}
	for _, e := range []api.Errno{api.OK, api.ErrDerTag, api.ErrDerForm, api.ErrDerDeep, api.ErrDerLong} {
		if told[e] < 10 {
			t.Errorf("%d was told %d times alone", e, told[e])
		}
	}
}
