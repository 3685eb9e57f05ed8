package cert

import (
	"strconv"

	"ostiary/api"
	"ostiary/der"
)

const (
	mostAttrs = 8
	mostValue = 64 // bytes
)

func nameOf(d api.Der) ([]api.Attr, error) {
	if !isSeq(d, 0, mostAttrs) {
		return nil, fault{api.ErrCertName}
	}
	var l []api.Attr
	for i, x := range d.List {
		a, ok := attrOf(x)
		if !ok {
			return nil, inside{"attribute " + strconv.Itoa(i), fault{api.ErrCertName}}
		}
		l = append(l, a)
	}
	return l, nil
}

func attrOf(d api.Der) (api.Attr, bool) {
	if !is(d, api.DerSet) || !hasSize(d, 1, 1) || !isSeq(d.List[0], 2, 2) {
		return api.Attr{}, false
	}
	kind, value := d.List[0].List[0], d.List[0].List[1]
	id, e := der.Oid(kind)
	return api.Attr{Type: id, Value: value.Bytes}, e == api.OK && isValue(value)
}

// isValue: is it a text that an attribute may have?
func isValue(d api.Der) bool {
	text := is(d, api.DerPrintable) || is(d, api.DerUtf8) || is(d, api.DerIa5)
	return text && len(d.Bytes) >= 1 && len(d.Bytes) <= mostValue
}
