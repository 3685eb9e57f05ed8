package der

import (
	"ostiary/api"
	"ostiary/text"
)

// valueOf is the value whose form s is.
func valueOf(s string) (api.Der, error) {
	if len(s) > api.MaxDer {
		return api.Der{}, fault{api.ErrDerLong}
	}
	c := text.Open(s)
	d, err := read(c, 0)
	if err != nil {
		return api.Der{}, err
	}
	if c.Left() > 0 {
		return api.Der{}, fault{api.ErrDerMore}
	}
	return d, nil
}

// read reads the next value, which stands within so many others.
func read(c *text.Cursor, within int) (api.Der, error) {
	d, err := readHead(c, within)
	if err != nil {
		return api.Der{}, err
	}
	n, err := readLength(c)
	if err != nil {
		return api.Der{}, err
	}
	follows, err := take(c, n)
	if err != nil {
		return api.Der{}, err
	}
	if d.Cons {
		d.List, err = readList(d, follows, within)
	} else {
		d.Bytes = follows
		err = checkBytes(d)
	}
	if err != nil {
		return api.Der{}, err
	}
	return d, nil
}

// readHead reads the first byte of a value, which stands within so many others.
func readHead(c *text.Cursor, within int) (api.Der, error) {
	s, err := take(c, 1)
	if err != nil {
		return api.Der{}, err
	}
	d := api.Der{Class: int(s[0] >> 6), Tag: int(s[0] & (consDigit - 1)), Cons: s[0]&consDigit != 0}
	return d, checkHead(d, within)
}

func readLength(c *text.Cursor) (int, error) {
	s, err := take(c, 1)
	if err != nil {
		return 0, err
	}
	switch s[0] {
	case oneMore:
		return readLong(c, 1, longFrom)
	case twoMore:
		return readLong(c, 2, longerFrom)
	}
	if s[0] >= longFrom {
		return 0, fault{api.ErrDerForm}
	}
	return int(s[0]), nil
}

// readLong reads a length of so many bytes; one below least has a shorter form.
func readLong(c *text.Cursor, size, least int) (int, error) {
	s, err := take(c, size)
	if err != nil {
		return 0, err
	}
	n := 0
	for i := range len(s) {
		n = n<<8 | int(s[i])
	}
	if n < least {
		return 0, fault{api.ErrDerForm}
	}
	return n, nil
}

// readList reads the elements of d, the last of which ends where their bytes end.
func readList(d api.Der, forms string, within int) ([]api.Der, error) {
	var l []api.Der
	var o order
	c := text.Open(forms)
	for c.Left() > 0 {
		from := c.At()
		x, err := read(c, within+1)
		if err != nil {
			return nil, inside{len(l), err}
		}
		l = append(l, x)
		o.add(forms[from:c.At()])
	}
	return l, o.check(d)
}

func take(c *text.Cursor, n int) (string, error) {
	s, e := c.Take(n)
	if e != api.OK {
		return "", fault{api.ErrDerEnd}
	}
	return s, nil
}
