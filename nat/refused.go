package nat

import (
	"errors"

	"ostiary/api"
)

var (
	errLong  = errors.New("nat: a number of too many bytes")
	errZero  = errors.New("nat: division by 0")
	errBelow = errors.New("nat: a difference below 0")
	errNone  = errors.New("nat: no inverse")
	errEven  = errors.New("nat: an even modulus")
	errWide  = errors.New("nat: it does not fit into so many bytes")
)

// told is the number that a face tells of an error, OK of none.
func told(err error) api.Errno {
	switch {
	case err == nil:
		return api.OK
	case errors.Is(err, errLong):
		return api.ErrNatLong
	case errors.Is(err, errZero):
		return api.ErrNatZero
	case errors.Is(err, errBelow):
		return api.ErrNatBelow
	case errors.Is(err, errNone):
		return api.ErrNatNone
	case errors.Is(err, errEven):
		return api.ErrNatEven
	case errors.Is(err, errWide):
		return api.ErrNatWide
	}
	return api.ErrArg
}
