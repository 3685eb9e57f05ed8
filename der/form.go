package der

import "ostiary/api"

// A value's first byte has a digit that tells constructed ones; a length below longFrom is its own byte, one above mostLength has no form.
const (
	consDigit  = 32
	longFrom   = 128
	longerFrom = 256
	oneMore    = 129 // the length is the next byte
	twoMore    = 130 // the next two
	mostLength = 1<<16 - 1
)

// formOf is the form of a whole value.
func formOf(d api.Der) (string, error) {
	form, err := lay(d, 0)
	if err != nil {
		return "", err
	}
	if form == "" || len(form) > api.MaxDer {
		return "", fault{api.ErrDerLong}
	}
	return form, nil
}

// lay is the form of a value within so many others; it is empty if nothing is wrong but that no length can tell so many bytes.
func lay(d api.Der, within int) (string, error) {
	if err := checkHead(d, within); err != nil {
		return "", err
	}
	if d.Cons {
		return layList(d, within)
	}
	if err := checkBytes(d); err != nil {
		return "", err
	}
	return withHead(d, d.Bytes), nil
}

func layList(d api.Der, within int) (string, error) {
	var all []byte
	var o order
	long := false
	for i, x := range d.List {
		form, err := lay(x, within+1)
		if err != nil {
			return "", inside{i, err}
		}
		// No way out where it gets too long: what is wrong farther on is told first.
		if long = long || form == "" || len(all)+len(form) > mostLength; !long {
			all = append(all, form...)
		}
		if form != "" {
			o.add(form)
		}
	}
	if err := o.check(d); err != nil || long {
		return "", err
	}
	return withHead(d, string(all)), nil
}

// withHead puts what tells class, tag and length ahead of what follows.
func withHead(d api.Der, follows string) string {
	first := byte(d.Class<<6 | d.Tag)
	if d.Cons {
		first |= consDigit
	}
	switch n := len(follows); {
	case n < longFrom:
		return string([]byte{first, byte(n)}) + follows
	case n < longerFrom:
		return string([]byte{first, oneMore, byte(n)}) + follows
	case n <= mostLength:
		return string([]byte{first, twoMore, byte(n >> 8), byte(n)}) + follows
	}
	return ""
}
