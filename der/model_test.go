package der_test

// What the chapter says, once more and by other means: patterns for bytes, the library's calendar. The tests hold the package against it.

import (
	"regexp"
	"time"
	"unicode/utf8"

	"ostiary/api"
)

// latin makes bytes runes of the same numbers, so that patterns go byte by byte.
func latin(s string) string {
	r := make([]rune, len(s))
	for i := range len(s) {
		r[i] = rune(s[i])
	}
	return string(r)
}

func pattern(s string) *regexp.Regexp { return regexp.MustCompile(`(?s)^(?:` + s + `)$`) }

// bitsPattern has a branch for each number of digits that do not count.
func bitsPattern() string {
	const digits = "0123456789abcdef"
	branches := `\x00`
	for over := range 8 {
		last := ""
		for c := 0; c < 256; c += 1 << over {
			last += `\x` + digits[c/16:c/16+1] + digits[c%16:c%16+1]
		}
		branches += `|\x0` + digits[over:over+1] + `.*[` + last + `]`
	}
	return branches
}

var patterns = map[int]*regexp.Regexp{
	api.DerBool:      pattern(`\x00|\xff`),
	api.DerInt:       pattern(`.|\x00[\x80-\xff].*|\xff[\x00-\x7f].*|[\x01-\xfe].+`),
	api.DerBits:      pattern(bitsPattern()),
	api.DerOctets:    pattern(`.*`),
	api.DerNull:      pattern(``),
	api.DerOid:       pattern(`([\x00-\x7f]|[\x81-\xff][\x80-\xff]{0,2}[\x00-\x7f]|[\x81-\x87][\x80-\xff]{3}[\x00-\x7f])+`),
	api.DerUtf8:      pattern(`.*`),
	api.DerPrintable: pattern(`[A-Za-z0-9 '()+,\-./:=?]*`),
	api.DerIa5:       pattern(`[\x00-\x7f]*`),
	api.DerUtc:       pattern(`[0-9]{12}Z`),
	api.DerTime:      pattern(`[0-9]{14}Z`),
}

func modelTime(tag int, s string) (int, bool) {
	if tag == api.DerUtc && s[0] >= '5' {
		s = "19" + s
	} else if tag == api.DerUtc {
		s = "20" + s
	}
	t, err := time.Parse("20060102150405Z", s)
	return int(t.Unix()), err == nil
}

func modelBytes(tag int, s string) bool {
	if !patterns[tag].MatchString(latin(s)) {
		return false
	}
	switch tag {
	case api.DerUtf8:
		return utf8.ValidString(s)
	case api.DerUtc, api.DerTime:
		_, ok := modelTime(tag, s)
		return ok
	}
	return true
}

func modelForm(d api.Der) string {
	b := d.Bytes
	for _, x := range d.List {
		b += modelForm(x)
	}
	first := 64*d.Class + d.Tag
	if d.Cons {
		first += 32
	}
	n := len(b)
	length := []byte{byte(n)}
	if n >= 128 {
		length = []byte{129, byte(n)}
	}
	if n >= 256 {
		length = []byte{130, byte(n / 256), byte(n)}
	}
	return string([]byte{byte(first)}) + string(length) + b
}

func modelSorted(d api.Der) bool {
	for i := 1; i < len(d.List); i++ {
		if modelForm(d.List[i]) < modelForm(d.List[i-1]) {
			return false
		}
	}
	return true
}

func modelKnown(d api.Der) bool {
	if d.Class == 0 {
		return d.Tag == api.DerSeq || d.Tag == api.DerSet || patterns[d.Tag] != nil
	}
	return d.Class > 0 && d.Class < 4 && d.Tag >= 0 && d.Tag < 31
}

// modelCheck is the first thing that is wrong but for the length of the whole.
func modelCheck(d api.Der, within int) api.Errno {
	mustCons := d.Tag == api.DerSeq || d.Tag == api.DerSet
	switch {
	case !modelKnown(d):
		return api.ErrDerTag
	case d.Cons && d.Bytes != "" || !d.Cons && len(d.List) != 0 || d.Class == 0 && d.Cons != mustCons:
		return api.ErrDerForm
	case d.Cons && within == 16:
		return api.ErrDerDeep
	case d.Class == 0 && !d.Cons && !modelBytes(d.Tag, d.Bytes):
		return api.ErrDerForm
	}
	for _, x := range d.List {
		if e := modelCheck(x, within+1); e != api.OK {
			return e
		}
	}
	if d.Class == 0 && d.Tag == api.DerSet && !modelSorted(d) {
		return api.ErrDerForm
	}
	return api.OK
}

func modelPrint(d api.Der) (string, api.Errno) {
	if e := modelCheck(d, 0); e != api.OK {
		return "", e
	}
	if s := modelForm(d); len(s) <= 16384 {
		return s, api.OK
	}
	return "", api.ErrDerLong
}

func modelParse(s string) (api.Der, api.Errno) {
	if len(s) > 16384 {
		return api.Der{}, api.ErrDerLong
	}
	d, rest, e := modelRead(s, 0)
	if e == api.OK && rest != "" {
		e = api.ErrDerMore
	}
	if e != api.OK {
		return api.Der{}, e
	}
	return d, api.OK
}

// modelRead reads the value at the beginning of s, and tells what is behind it.
func modelRead(s string, within int) (api.Der, string, api.Errno) {
	if s == "" {
		return api.Der{}, "", api.ErrDerEnd
	}
	d := api.Der{Class: int(s[0]) / 64, Cons: int(s[0])/32%2 == 1, Tag: int(s[0]) % 32}
	mustCons := d.Tag == api.DerSeq || d.Tag == api.DerSet
	switch {
	case !modelKnown(d):
		return d, "", api.ErrDerTag
	case d.Class == 0 && d.Cons != mustCons:
		return d, "", api.ErrDerForm
	case d.Cons && within == 16:
		return d, "", api.ErrDerDeep
	}
	n, s, e := modelLength(s[1:])
	if e != api.OK {
		return d, "", e
	}
	if len(s) < n {
		return d, "", api.ErrDerEnd
	}
	if !d.Cons {
		d.Bytes = s[:n]
		if d.Class == 0 && !modelBytes(d.Tag, d.Bytes) {
			return d, "", api.ErrDerForm
		}
		return d, s[n:], api.OK
	}
	for rest := s[:n]; rest != ""; {
		var x api.Der
		if x, rest, e = modelRead(rest, within+1); e != api.OK {
			return d, "", e
		}
		d.List = append(d.List, x)
	}
	if d.Class == 0 && d.Tag == api.DerSet && !modelSorted(d) {
		return d, "", api.ErrDerForm
	}
	return d, s[n:], api.OK
}

func modelLength(s string) (int, string, api.Errno) {
	if s == "" {
		return 0, "", api.ErrDerEnd
	}
	first, s := int(s[0]), s[1:]
	size := first - 128
	switch {
	case first < 128:
		return first, s, api.OK
	case size < 1 || size > 2:
		return 0, "", api.ErrDerForm
	case len(s) < size:
		return 0, "", api.ErrDerEnd
	}
	n := int(s[0])
	if size == 2 {
		n = 256*n + int(s[1])
	}
	if n < 128 || size == 2 && n < 256 {
		return 0, "", api.ErrDerForm
	}
	return n, s[size:], api.OK
}
