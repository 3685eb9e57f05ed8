package der

import (
	"slices"

	"ostiary/api"
)

const mostTag = 30

// checkHead refuses a value within so many others for what is told ahead of its bytes and its elements.
func checkHead(d api.Der, within int) error {
	cons, known := kindOf(d)
	switch {
	case !known:
		return fault{api.ErrDerTag}
	case d.Cons != cons, !d.Cons && len(d.List) > 0, d.Cons && d.Bytes != "":
		return fault{api.ErrDerForm}
	case d.Cons && within >= api.MaxDerDeep:
		return fault{api.ErrDerDeep}
	}
	return nil
}

// kindOf tells whether there are values of d's class and tag, and whether such a one must be constructed; of another class than 0 it may be either.
func kindOf(d api.Der) (cons, known bool) {
	if d.Class != api.DerUniversal {
		return d.Cons, d.Class > api.DerUniversal && d.Class <= api.DerPrivate && d.Tag >= 0 && d.Tag <= mostTag
	}
	switch d.Tag {
	case api.DerSeq, api.DerSet:
		return true, true
	case api.DerBool, api.DerInt, api.DerBits, api.DerOctets, api.DerNull, api.DerOid, api.DerUtf8,
		api.DerPrintable, api.DerIa5, api.DerUtc, api.DerTime:
		return false, true
	}
	return false, false
}

// checkKind refuses a value that may not be, or is not of the class 0 and one of these tags.
func checkKind(d api.Der, tags ...int) error {
	if d.Class != api.DerUniversal || !slices.Contains(tags, d.Tag) {
		return fault{api.ErrDerKind}
	}
	if _, err := formOf(d); err != nil {
		return fault{api.ErrDerKind}
	}
	return nil
}

// order watches whether elements come in a set's order, form by form.
type order struct {
	last   string
	broken bool
}

func (o *order) add(form string) {
	o.broken = o.broken || form < o.last
	o.last = form
}

// check refuses a set whose elements these are, if their order is broken.
func (o *order) check(d api.Der) error {
	if o.broken && d.Class == api.DerUniversal && d.Tag == api.DerSet {
		return fault{api.ErrDerForm}
	}
	return nil
}
