package der

import (
	"strconv"
	"strings"

	"ostiary/api"
)

const (
	moreDigit  = 128 // of a byte behind which its group goes on
	groupBits  = 7   // of a byte: its part of the number
	mostGroup  = 5   // bytes
	numberBits = 31  // of a group's number
	// The first group tells two numbers, the first of them so many times.
	firstTimes = 40
	mostFirst  = 2
)

// eachGroup tells the numbers of an OID's groups, one behind the other.
func eachGroup(s string, tell func(number int)) error {
	if s == "" {
		return fault{api.ErrDerForm}
	}
	for s != "" {
		number, size, err := readGroup(s)
		if err != nil {
			return err
		}
		tell(number)
		s = s[size:]
	}
	return nil
}

// readGroup reads the group at the beginning of bytes, and tells how many of them it has.
func readGroup(s string) (number, size int, err error) {
	last := 0
	for last < len(s) && last < mostGroup && s[last] >= moreDigit {
		last++
	}
	if last == len(s) || last == mostGroup || s[0] == moreDigit {
		return 0, 0, fault{api.ErrDerForm}
	}
	for i := range last + 1 {
		number = number<<groupBits | int(s[i]%moreDigit)
	}
	if number >= 1<<numberBits {
		return 0, 0, fault{api.ErrDerForm}
	}
	return number, last + 1, nil
}

func oidText(d api.Der) (string, error) {
	if err := checkKind(d, api.DerOid); err != nil {
		return "", err
	}
	var b []byte
	err := eachGroup(d.Bytes, func(number int) {
		if b == nil {
			first := min(number/firstTimes, mostFirst)
			b = strconv.AppendInt(b, int64(first), 10)
			number -= first * firstTimes
		}
		b = append(b, '.')
		b = strconv.AppendInt(b, int64(number), 10)
	})
	return string(b), err
}

func oidOf(s string) (api.Der, error) {
	b, err := writeGroups(s)
	if err != nil {
		return api.Der{}, err
	}
	d := api.Der{Tag: api.DerOid, Bytes: string(b)}
	// Numbers that are written otherwise, or may not stand where they stand, come to another text, or to none.
	if again, err := oidText(d); err != nil || again != s {
		return api.Der{}, fault{api.ErrDerForm}
	}
	return d, nil
}

// writeGroups writes the groups of an OID's text; those of another text may come to anything.
func writeGroups(s string) ([]byte, error) {
	var b []byte
	first, place := 0, 0
	for part := range strings.SplitSeq(s, ".") {
		number, err := strconv.ParseUint(part, 10, numberBits)
		if err != nil {
			return nil, inside{place, fault{api.ErrDerForm}}
		}
		switch place {
		case 0:
			first = int(number)
		case 1:
			b = writeGroup(b, first*firstTimes+int(number))
		default:
			b = writeGroup(b, int(number))
		}
		place++
	}
	return b, nil
}

func writeGroup(b []byte, number int) []byte {
	shift := 0
	for number>>shift >= moreDigit {
		shift += groupBits
	}
	for ; shift > 0; shift -= groupBits {
		b = append(b, byte(number>>shift)|moreDigit)
	}
	return append(b, byte(number)%moreDigit)
}
