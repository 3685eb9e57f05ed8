package rsa

import (
	"ostiary/api"
	"ostiary/nat"
)

const (
	// An odd number of one digit is 1, of two it is 3.
	leastExponent = 2
	mostExponent  = 32
)

func checked(k api.RsaKey) error {
	if !oddForm(k.N, api.MinRsa, api.MaxRsa) {
		return about{"the modulus", errKey}
	}
	if !oddForm(k.E, leastExponent, mostExponent) {
		return about{"the exponent", errKey}
	}
	return nil
}

// oddForm: is it an odd number's form, of least to most binary digits?
func oddForm(a string, least, most int) bool {
	n := nat.Bits(a)
	return n >= least && n <= most && nat.Trim(a) == a && a[len(a)-1]&1 == 1
}

func open(k api.RsaKey, sig string) (string, error) {
	if err := checked(k); err != nil {
		return "", err
	}
	// Behind the check N is a form: it has just as many bytes as it needs.
	size := len(k.N)
	if len(sig) != size {
		return "", about{"the length", errSize}
	}
	if nat.Cmp(sig, k.N) >= 0 {
		return "", about{"the value", errSize}
	}
	// Nothing is refused here: N is above 0, and all of them have few bytes.
	power, _ := nat.Pow(sig, k.E, k.N)
	opened, _ := nat.Pad(power, size)
	return opened, nil
}
