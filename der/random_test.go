package der_test

import (
	"slices"
	"strings"

	"ostiary/api"
)

// primitive is a primitive value of the class 0 that may be.
func (s *source) primitive() api.Der {
	switch s.below(11) {
	case 0:
		return prim(api.DerBool, string([]byte{byte(255 * s.below(2))}))
	case 1:
		return prim(api.DerInt, string([]byte{byte(1 + s.below(254))})+s.bytes(s.below(9)))
	case 2:
		return prim(api.DerBits, "\x00"+s.bytes(s.below(9)))
	case 3:
		return prim(api.DerOctets, s.bytes(s.below(s.size())))
	case 4:
		return null()
	case 5:
		return prim(api.DerOid, "\x2a\x86\x48\x86\xf7\x0d"+string([]byte{byte(s.below(128))}))
	case 6:
		return prim(api.DerUtf8, strings.Repeat("é", s.below(5)))
	case 7:
		return prim(api.DerPrintable, "A b'(c)+,-./:=?"[:s.below(15)])
	case 8:
		return prim(api.DerIa5, "@*&_\x00\x7f"[:s.below(6)])
	case 9:
		return prim(api.DerUtc, "991231235959Z")
	}
	return prim(api.DerTime, "20491231235959Z")
}

// size is one of an octet string, mostly small.
func (s *source) size() int {
	switch s.below(200) {
	case 0:
		return 20000
	case 1, 2, 3:
		return 600
	case 4, 5, 6, 7, 8, 9:
		return 140
	}
	return 6
}

// value is one of so many levels at most, of which about one in so many parts is wrong; 0: none is.
func (s *source) value(levels, wrong int) api.Der {
	d := s.primitive()
	if levels > 0 && s.below(8) != 0 {
		n := 1 + s.below(2)*s.below(2)*s.below(4)
		d = seq()
		for range n {
			d.List = append(d.List, s.value(levels-1, wrong))
		}
		if s.below(3) == 0 {
			d.Tag = api.DerSet
			slices.SortFunc(d.List, func(a, b api.Der) int { return strings.Compare(modelForm(a), modelForm(b)) })
		}
	}
	if s.below(6) == 0 {
		d.Class, d.Tag = 1+s.below(3), s.below(31)
	}
	if wrong > 0 && s.below(wrong) == 0 {
		return s.spoilt(d)
	}
	return d
}

// spoilt is d with something changed, mostly so that it may not be.
func (s *source) spoilt(d api.Der) api.Der {
	switch s.below(8) {
	case 0:
		d.Class = s.below(9) - 2
	case 1:
		d.Tag = s.below(40) - 4
	case 2:
		d.Cons = !d.Cons
	case 3:
		d.Bytes = s.bytes(s.below(4))
	case 4:
		d.List = append(slices.Clone(d.List), s.primitive())
	case 5:
		d.List = slices.Clone(d.List)
		slices.Reverse(d.List)
	case 6:
		if d.Bytes != "" {
			d.Bytes = d.Bytes[1:]
		}
	case 7:
		d.Bytes += s.bytes(1)
	}
	return d
}
