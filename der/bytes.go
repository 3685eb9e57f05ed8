package der

import (
	"strings"

	"ostiary/api"
	"ostiary/text"
)

const (
	signDigit  = 128 // an integer's highest digit: it is below 0
	printables = "ABCDEFGHIJKLMNOPQRSTUVWXYZabcdefghijklmnopqrstuvwxyz0123456789 '()+,-./:=?"
)

// checkBytes refuses a primitive value, whose tag may be, for its bytes.
func checkBytes(d api.Der) error {
	if d.Class != api.DerUniversal {
		return nil
	}
	switch d.Tag {
	case api.DerOid:
		return eachGroup(d.Bytes, func(int) {})
	case api.DerUtc, api.DerTime:
		_, err := readTime(d.Tag, d.Bytes)
		return err
	}
	if !fits(d.Tag, d.Bytes) {
		return fault{api.ErrDerForm}
	}
	return nil
}

// fits: are bytes as a tag of the class 0 asks that is neither an OID's nor a time's?
func fits(tag int, s string) bool {
	switch tag {
	case api.DerBool:
		return s == "\x00" || s == "\xff"
	case api.DerInt:
		return isInt(s)
	case api.DerBits:
		return isBits(s)
	case api.DerNull:
		return s == ""
	case api.DerUtf8:
		return text.Utf8(s)
	case api.DerPrintable:
		return each(s, isPrintable)
	case api.DerIa5:
		return each(s, isIa5)
	}
	return true
}

// isInt: does no byte stand ahead that says no more than the next one's highest digit?
func isInt(s string) bool {
	if len(s) < 2 {
		return s != ""
	}
	return !(s[0] == 0 && s[1] < signDigit || s[0] == 255 && s[1] >= signDigit)
}

func isBits(s string) bool {
	if len(s) < 2 {
		return s == "\x00"
	}
	over := s[0]
	return over <= 7 && s[len(s)-1]&(1<<over-1) == 0
}

func each(s string, is func(c byte) bool) bool {
	for i := range len(s) {
		if !is(s[i]) {
			return false
		}
	}
	return true
}

func isPrintable(c byte) bool { return strings.IndexByte(printables, c) >= 0 }

func isIa5(c byte) bool { return c < 128 }

func isDigit(c byte) bool { return '0' <= c && c <= '9' }
