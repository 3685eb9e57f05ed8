package cert

import (
	"errors"
	"strconv"

	"ostiary/api"
)

// fault is what is wrong, by the number that a face tells.
type fault struct{ code api.Errno }

func (f fault) Error() string { return "cert: error " + strconv.Itoa(int(f.code)) }

// inside wraps an error with the part in which it was found.
type inside struct {
	part string
	err  error
}

func (i inside) Error() string { return i.part + ": " + i.err.Error() }

func (i inside) Unwrap() error { return i.err }

// told is the number that a face tells of an error, OK of none alone: what is not known here is refused, too.
func told(err error) api.Errno {
	if err == nil {
		return api.OK
	}
	var f fault
	if errors.As(err, &f) {
		return f.code
	}
	return api.ErrArg
}
