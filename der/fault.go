package der

import (
	"errors"
	"strconv"

	"ostiary/api"
)

// fault is what is wrong, by the number that a face tells.
type fault struct{ code api.Errno }

func (f fault) Error() string { return "der: error " + strconv.Itoa(int(f.code)) }

// inside wraps an error of an element with that element's place.
type inside struct {
	place int
	err   error
}

func (i inside) Error() string { return "element " + strconv.Itoa(i.place) + ": " + i.err.Error() }

func (i inside) Unwrap() error { return i.err }

// told is the number that a face tells of an error, OK of none alone: what is not known here is refused, too.
func told(err error) api.Errno {
	if err == nil {
		return api.OK
	}
	var f fault
	if errors.As(err, &f) {
		return f.code
	}
	return api.ErrArg
}
