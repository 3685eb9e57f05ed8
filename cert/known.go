package cert

import (
	"ostiary/api"
	"ostiary/der"
)

const (
	oidUsage       = "2.5.29.15"
	oidDns         = "2.5.29.17"
	oidCa          = "2.5.29.19"
	oidConstraints = "2.5.29.30"
	oidPurposes    = "2.5.29.37"
)

const (
	mostUsage    = 9 // digits
	mostNames    = 16
	mostPurposes = 8
	mostPathLen  = 127 // so that an integer of one byte says it
	tagPermit    = 0
	tagExclude   = 1
)

// readerOf is what reads the value of an extension that is known; it answers false, if that may not be. Of another one it is nil.
func readerOf(id string) func(c *api.Cert, v api.Der) bool {
	switch id {
	case oidUsage:
		return readUsage
	case oidDns:
		return readDns
	case oidCa:
		return readCa
	case oidConstraints:
		return readConstraints
	case oidPurposes:
		return readPurposes
	}
	return nil
}

func readUsage(c *api.Cert, v api.Der) bool {
	s, over, e := der.Bits(v)
	size := 8*len(s) - over
	if e != api.OK || size < 1 || size > mostUsage {
		return false
	}
	c.Usage = 0
	for i := range size {
		c.Usage |= digit(s, i) << i
	}
	return digit(s, size-1) == 1
}

// digit is a binary digit, the highest one of the first byte at 0.
func digit(s string, i int) int { return int(s[i/8]>>(7-i%8)) & 1 }

func readDns(c *api.Cert, v api.Der) bool {
	if !isSeq(v, 1, mostNames) {
		return false
	}
	for _, x := range v.List {
		if x.Class != api.DerContext || x.Tag == tagHost && !isHost(x) {
			return false
		}
		if x.Tag == tagHost {
			c.Dns = append(c.Dns, x.Bytes)
		}
	}
	return true
}

func readCa(c *api.Cert, v api.Der) bool {
	if !isSeq(v, 0, 2) || len(v.List) > 0 && !isYes(v.List[0]) {
		return false
	}
	c.Ca = len(v.List) > 0
	if len(v.List) < 2 {
		return true
	}
	n := v.List[1]
	if !is(n, api.DerInt) || len(n.Bytes) > 1 || n.Bytes[0] > mostPathLen {
		return false
	}
	c.PathLen = int(n.Bytes[0])
	return true
}

func readConstraints(c *api.Cert, v api.Der) bool {
	if !isSeq(v, 1, 2) {
		return false
	}
	l, ok := v.List, true
	if isContext(l[0], tagPermit, true) {
		c.Permit, ok = hostsOf(l[0].List)
		l = l[1:]
	}
	if ok && len(l) > 0 && isContext(l[0], tagExclude, true) {
		c.Exclude, ok = hostsOf(l[0].List)
		l = l[1:]
	}
	return ok && len(l) == 0
}

// hostsOf are the hosts of a constraint's elements.
func hostsOf(elements []api.Der) ([]string, bool) {
	if len(elements) < 1 || len(elements) > mostNames {
		return nil, false
	}
	var l []string
	for _, x := range elements {
		if !isSeq(x, 1, 1) || !isHost(x.List[0]) {
			return nil, false
		}
		l = append(l, x.List[0].Bytes)
	}
	return l, true
}

func readPurposes(c *api.Cert, v api.Der) bool {
	if !isSeq(v, 1, mostPurposes) {
		return false
	}
	for _, x := range v.List {
		id, e := der.Oid(x)
		if e != api.OK {
			return false
		}
		c.Purposes = append(c.Purposes, id)
	}
	return true
}
