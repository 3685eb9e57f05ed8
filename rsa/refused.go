package rsa

import (
	"errors"

	"ostiary/api"
)

var (
	errKey    = errors.New("rsa: no key")
	errSize   = errors.New("rsa: a signature of another size, or too great")
	errBlock  = errors.New("rsa: the block does not fit")
	errScheme = errors.New("rsa: no such scheme")
)

// about wraps an error with the part in which it was found.
type about struct {
	part string
	err  error
}

func (a about) Error() string { return a.part + ": " + a.err.Error() }

func (a about) Unwrap() error { return a.err }

// told is the number that a face tells of an error, OK of none alone: what is not known here is refused, too.
func told(err error) api.Errno {
	switch {
	case err == nil:
		return api.OK
	case errors.Is(err, errKey):
		return api.ErrRsaKey
	case errors.Is(err, errSize):
		return api.ErrRsaSize
	case errors.Is(err, errBlock):
		return api.ErrRsaBlock
	}
	return api.ErrArg
}
