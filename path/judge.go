package path

import (
	"slices"

	"ostiary/api"
)

const (
	digitSigns  = 1 << 0 // of Usage: the key signs
	digitIssues = 1 << 5 // it signs certificates
	anyPurpose  = "2.5.29.37.0"
)

// judge holds rows of certificates against a time and a purpose. A row is their places in certs, from the leaf on.
type judge struct {
	certs   []api.Cert
	now     int
	purpose string
}

// held: why a list of certificates is no path that holds.
func held(l []api.Cert, now int, purpose string) error {
	if len(l) == 0 {
		return fault{api.ErrPathNone}
	}
	if len(l) > api.MaxChain+1 {
		return fault{api.ErrPathLong}
	}
	row := []int{0}
	for i := 1; i < len(l); i++ {
		if !Issued(l[i-1], l[i]) {
			return at{i - 1, fault{api.ErrPathSig}}
		}
		row = append(row, i)
	}
	j := judge{l, now, purpose}
	return j.fault(row)
}

// six are the errors of what may not be so, in the order in which it is asked.
func six() [6]api.Errno {
	return [...]api.Errno{api.ErrPathTime, api.ErrPathCa, api.ErrPathDepth, api.ErrPathNames, api.ErrPathUsage, api.ErrPathOther}
}

// fault is the first of the six that is so of a row: each is asked of all its certificates ahead of the next one.
func (j *judge) fault(row []int) error {
	for _, code := range six() {
		for i, x := range row {
			if j.isSo(code, row[:i], x) {
				return at{i, fault{code}}
			}
		}
	}
	return nil
}

// fits: is none of the six so of the certificate x behind those that are nearer to the leaf?
func (j *judge) fits(nearer []int, x int) bool {
	for _, code := range six() {
		if j.isSo(code, nearer, x) {
			return false
		}
	}
	return true
}

// isSo: is what an error of the six tells so of the certificate x? It hangs on that one and those nearer to the leaf alone; the leaf has none of these.
func (j *judge) isSo(code api.Errno, nearer []int, x int) bool {
	c := &j.certs[x]
	leaf := len(nearer) == 0
	switch code {
	case api.ErrPathTime:
		return j.now < c.From || j.now > c.To
	case api.ErrPathCa:
		return !leaf && !(c.Ca && isFor(c, digitIssues))
	case api.ErrPathDepth:
		return !leaf && c.PathLen >= 0 && j.between(nearer) > c.PathLen
	case api.ErrPathNames:
		return !leaf && j.isBarred(nearer, c)
	case api.ErrPathUsage:
		return !j.hasPurpose(c) || leaf && !isFor(c, digitSigns)
	}
	return len(c.Unknown) > 0
}

// isFor: has Usage a digit, or is it not told?
func isFor(c *api.Cert, digit int) bool { return c.Usage < 0 || c.Usage&digit != 0 }

func isSelfIssued(c *api.Cert) bool { return slices.Equal(c.Issuer, c.Subject) }

// between is how many of a row count as those behind the leaf.
func (j *judge) between(row []int) int {
	n := 0
	for _, x := range row[1:] {
		if !isSelfIssued(&j.certs[x]) {
			n++
		}
	}
	return n
}

// isBarred: has one of those nearer to the leaf a host that c does not permit?
func (j *judge) isBarred(nearer []int, c *api.Cert) bool {
	for i, x := range nearer {
		y := &j.certs[x]
		if i > 0 && isSelfIssued(y) {
			continue
		}
		if slices.ContainsFunc(y.Dns, func(host string) bool { return !permits(c, host) }) {
			return true
		}
	}
	return false
}

func permits(c *api.Cert, host string) bool {
	within := func(of string) bool { return Within(host, of) }
	return (len(c.Permit) == 0 || slices.ContainsFunc(c.Permit, within)) && !slices.ContainsFunc(c.Exclude, within)
}

// hasPurpose: is a certificate for the purpose that is asked for, if one is?
func (j *judge) hasPurpose(c *api.Cert) bool {
	if len(c.Purposes) == 0 || j.purpose == "" {
		return true
	}
	return slices.Contains(c.Purposes, j.purpose) || slices.Contains(c.Purposes, anyPurpose)
}
