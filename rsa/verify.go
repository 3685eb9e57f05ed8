package rsa

import (
	"ostiary/api"
	"ostiary/nat"
)

// verified: why sig is no signature of s.
func verified(k api.RsaKey, scheme int, s, sig string) error {
	made := madeAsBlock
	switch scheme {
	case api.Ps256:
		made = madeAsPss
		fallthrough
	case api.Rs256:
		opened, err := open(k, sig)
		if err != nil {
			return about{"the signature", err}
		}
		return made(k, s, opened)
	}
	return about{"the scheme", errScheme}
}

// madeAsBlock holds the whole block against the one that must be: to read it piece by piece would leave room for blocks that are made up.
func madeAsBlock(k api.RsaKey, s, opened string) error {
	wanted, err := block(s, len(k.N))
	if err != nil {
		return err
	}
	if opened != wanted {
		return about{"the block", errBlock}
	}
	return nil
}

func madeAsPss(k api.RsaKey, s, opened string) error {
	digits := nat.Bits(k.N) - 1
	// A first byte is over where those digits are whole bytes: Pad takes it off, and refuses one that is not 0.
	b, e := nat.Pad(opened, (digits+7)/8)
	if e != api.OK {
		return about{"the first byte", errBlock}
	}
	return fits(s, b, digits)
}
