package text

import (
	"strings"

	"ostiary/api"
)

const base64Digits = "ABCDEFGHIJKLMNOPQRSTUVWXYZabcdefghijklmnopqrstuvwxyz0123456789-_"

// Base64: base64url without padding.
func Base64(s string) string {
	b := make([]byte, 0, (4*len(s)+2)/3)
	for i := 0; i < len(s); i += 3 {
		b = writeGroup(b, s[i:min(i+3, len(s))])
	}
	return string(b)
}

// writeGroup writes one to three bytes, as one character more; those of the three that are missing count as bits 0.
func writeGroup(b []byte, group string) []byte {
	var bits uint32
	switch len(group) {
	case 3:
		bits |= uint32(group[2])
		fallthrough
	case 2:
		bits |= uint32(group[1]) << 8
		fallthrough
	case 1:
		bits |= uint32(group[0]) << 16
	}
	for i := range len(group) + 1 {
		b = append(b, base64Digits[bits>>(18-6*i)&63])
	}
	return b
}

// FromBase64: the bytes of base64url.
func FromBase64(s string) (string, api.Errno) {
	b, err := readBase64(s)
	return string(b), told(err)
}

func readBase64(s string) ([]byte, error) {
	b := make([]byte, 0, 3*len(s)/4)
	for i := 0; i < len(s); i += 4 {
		var err error
		if b, err = readGroup(b, s[i:min(i+4, len(s))]); err != nil {
			return nil, placed{i, err}
		}
	}
	return b, nil
}

// readGroup reads one to four characters, as one byte fewer.
func readGroup(b []byte, group string) ([]byte, error) {
	var bits uint32
	for i := range len(group) {
		six := strings.IndexByte(base64Digits, group[i])
		if six < 0 {
			return nil, placed{i, fault{api.ErrTextBase}}
		}
		bits |= uint32(six) << (18 - 6*i)
	}
	n := len(group) - 1
	// Bits behind the bytes would be lost: two texts would come to the same bytes.
	behind := uint32(1)<<(24-8*n) - 1
	if n == 0 || bits&behind != 0 {
		return nil, fault{api.ErrTextBase}
	}
	for i := range n {
		b = append(b, byte(bits>>(16-8*i)))
	}
	return b, nil
}
