package text

import (
	"errors"
	"strconv"

	"ostiary/api"
)

// fault is what is wrong, by the number that a face tells.
type fault struct{ code api.Errno }

func (f fault) Error() string { return "text: error " + strconv.Itoa(int(f.code)) }

// placed wraps an error with the place at which it was found.
type placed struct {
	place int
	err   error
}

func (p placed) Error() string { return p.err.Error() + " at " + strconv.Itoa(p.place) }

func (p placed) Unwrap() error { return p.err }

// told is the number that a face tells of an error, OK of none.
func told(err error) api.Errno {
	if err == nil {
		return api.OK
	}
	var f fault
	if errors.As(err, &f) {
		return f.code
	}
	return api.ErrArg
}
