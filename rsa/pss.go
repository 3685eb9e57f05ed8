package rsa

import (
	"strings"

	"ostiary/api"
	"ostiary/hash"
)

const (
	saltSize = 32
	pssEnd   = "\xbc"
	// A byte 1, the salt, the sum, and the last byte.
	leastPss = 1 + saltSize + sumSize + len(pssEnd)
)

// mask is the first n bytes of a seed's mask; the seed is gone over once, whatever n is.
func mask(seed string, n int) string {
	seeded, _ := hash.New(api.Sha256)
	seeded.Write(seed)
	m := make([]byte, 0, n+sumSize)
	for i := 0; len(m) < n; i++ {
		h := seeded.Clone()
		h.Write(string([]byte{byte(i >> 24), byte(i >> 16), byte(i >> 8), byte(i)}))
		m = append(m, h.Sum()...)
	}
	return string(m[:n])
}

// fits: why a block does not fit as PSS, with b binary digits.
func fits(s, block string, b int) error {
	if b < 1 || b > 8*api.MaxNat || len(block) != (b+7)/8 || len(block) < leastPss {
		return about{"the length", errBlock}
	}
	rest, ended := strings.CutSuffix(block, pssEnd)
	if !ended {
		return about{"the last byte", errBlock}
	}
	at := len(rest) - sumSize
	salt, err := saltOf(rest[:at], rest[at:], 8*len(block)-b)
	if err != nil {
		return err
	}
	if rest[at:] != saltedSum(s, salt) {
		return about{"the sum", errBlock}
	}
	return nil
}

// saltOf takes the mask of h off what stands ahead of h; of its first byte as many upper digits as are spare are none of the block's.
func saltOf(ahead, h string, spare int) (string, error) {
	if ahead[0]>>(8-spare) != 0 {
		return "", about{"the upper digits", errBlock}
	}
	bare := []byte(mask(h, len(ahead)))
	for i := range bare {
		bare[i] ^= ahead[i]
	}
	bare[0] &= 0xff >> spare
	at := len(bare) - saltSize
	if string(bare[:at]) != strings.Repeat("\x00", at-1)+"\x01" {
		return "", about{"what is ahead of the salt", errBlock}
	}
	return string(bare[at:]), nil
}

func saltedSum(s, salt string) string {
	return hash.Sum256(strings.Repeat("\x00", 8) + hash.Sum256(s) + salt)
}
