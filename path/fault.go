package path

import (
	"errors"
	"strconv"

	"ostiary/api"
)

// fault is what is wrong, by the number that a face tells.
type fault struct{ code api.Errno }

func (f fault) Error() string { return "path: error " + strconv.Itoa(int(f.code)) }

// at wraps an error of a certificate with that one's place.
type at struct {
	place int
	err   error
}

func (a at) Error() string { return "certificate " + strconv.Itoa(a.place) + ": " + a.err.Error() }

func (a at) Unwrap() error { return a.err }

// told is the number that a face tells of an error, OK of none alone: what is not known here is refused, too.
func told(err error) api.Errno {
	if err == nil {
		return api.OK
	}
	var f fault
	if errors.As(err, &f) {
		return f.code
	}
	return api.ErrArg
}
