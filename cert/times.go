package cert

import (
	"ostiary/api"
	"ostiary/der"
)

func readTimes(c *api.Cert, d api.Der) error {
	if !isSeq(d, 2, 2) {
		return fault{api.ErrCertTime}
	}
	from, ok := timeOf(d.List[0])
	if !ok {
		return inside{"from", fault{api.ErrCertTime}}
	}
	to, ok := timeOf(d.List[1])
	if !ok || from > to {
		return inside{"to", fault{api.ErrCertTime}}
	}
	c.From, c.To = from, to
	return nil
}

// timeOf is a time's number, if it stands under the tag that its year asks for: OfTime takes two digits wherever they do.
func timeOf(d api.Der) (int, bool) {
	t, e := der.Time(d)
	if e != api.OK {
		return 0, false
	}
	again, e := der.OfTime(t)
	return t, e == api.OK && again.Tag == d.Tag
}
