package der

import (
	"ostiary/api"
	"ostiary/nat"
)

func natOf(d api.Der) (string, error) {
	if err := checkKind(d, api.DerInt); err != nil {
		return "", err
	}
	if d.Bytes[0] >= signDigit {
		return "", fault{api.ErrDerForm}
	}
	return nat.Trim(d.Bytes), nil
}

func intOf(a string) (api.Der, error) {
	form := nat.Trim(a)
	if len(form) > api.MaxNat {
		return api.Der{}, fault{api.ErrDerLong}
	}
	// The highest digit must be 0, or the number would be below 0.
	if form == "" || form[0] >= signDigit {
		form = "\x00" + form
	}
	return api.Der{Tag: api.DerInt, Bytes: form}, nil
}
