package text

import "ostiary/api"

const hexDigits = "0123456789abcdef"

// Hex: base sixteen.
func Hex(s string) string {
	b := make([]byte, 0, 2*len(s))
	for i := range len(s) {
		b = append(b, hexDigits[s[i]>>4], hexDigits[s[i]&15])
	}
	return string(b)
}

// FromHex: the bytes of base sixteen.
func FromHex(s string) (string, api.Errno) {
	b, err := readHex(s)
	return string(b), told(err)
}

func readHex(s string) ([]byte, error) {
	if len(s)%2 != 0 {
		return nil, placed{len(s), fault{api.ErrTextHex}}
	}
	b := make([]byte, 0, len(s)/2)
	for i := 0; i < len(s); i += 2 {
		c, err := readPair(s[i], s[i+1])
		if err != nil {
			return nil, placed{i, err}
		}
		b = append(b, c)
	}
	return b, nil
}

func readPair(high, low byte) (byte, error) {
	h, err := readDigit(high)
	if err != nil {
		return 0, err
	}
	l, err := readDigit(low)
	if err != nil {
		return 0, err
	}
	return h<<4 | l, nil
}

func readDigit(c byte) (byte, error) {
	switch {
	case '0' <= c && c <= '9':
		return c - '0', nil
	case 'a' <= c && c <= 'f':
		return c - 'a' + 10, nil
	}
	return 0, fault{api.ErrTextHex}
}
