package text

import (
	"strings"

	"ostiary/api"
)

// Cursor goes over bytes.
type Cursor struct {
	bytes string
	at    int // from 0 to their end
}

// Open: at their beginning.
func Open(s string) *Cursor { return &Cursor{bytes: s} }

// Byte: the next one.
func (c *Cursor) Byte() (byte, api.Errno) {
	s, err := c.take(1)
	if err != nil {
		return 0, told(err)
	}
	return s[0], api.OK
}

// Take: so many.
func (c *Cursor) Take(n int) (string, api.Errno) {
	s, err := c.take(n)
	return s, told(err)
}

// Until: up to a byte.
func (c *Cursor) Until(b byte) (string, api.Errno) {
	s, err := c.until(b)
	return s, told(err)
}

// Within: a cursor over so many.
func (c *Cursor) Within(n int) (*Cursor, api.Errno) {
	s, err := c.take(n)
	if err != nil {
		return nil, told(err)
	}
	return Open(s), api.OK
}

// At: where it stands.
func (c *Cursor) At() int { return c.at }

// Left: how many bytes are left.
func (c *Cursor) Left() int { return len(c.bytes) - c.at }

// Clone: another one in the same state.
func (c *Cursor) Clone() *Cursor {
	d := *c
	return &d
}

func (c *Cursor) take(n int) (string, error) {
	if n < 0 {
		return "", placed{c.at, fault{api.ErrTextSize}}
	}
	// Not at + n against the end: that sum may come round below 0.
	if n > c.Left() {
		return "", placed{c.at, fault{api.ErrTextEnd}}
	}
	s := c.bytes[c.at : c.at+n]
	c.at += n
	return s, nil
}

func (c *Cursor) until(b byte) (string, error) {
	n := strings.IndexByte(c.bytes[c.at:], b)
	if n < 0 {
		return "", placed{c.at, fault{api.ErrTextNone}}
	}
	s := c.bytes[c.at : c.at+n]
	c.at += n + 1
	return s, nil
}
