package path

import (
	"slices"

	"ostiary/api"
	"ostiary/cert"
)

// begun is a path's beginning.
type begun struct {
	row   []int
	sound bool // it would hold, if it were a path
}

// search is what is kept while paths are looked for. Of its judge's certificates the anchors come first, since they are tried first; then the leaf, and the others of the chain.
type search struct {
	judge
	leaf    int           // its place
	issuers map[int][]int // who issues whom, as far as it was asked: many rows come by the same one
	why     error         // why the first path that was found doesn't hold
}

// checked is the leaf, or why it has no path that holds.
func checked(chain, anchors []string, now int, purpose string) (api.Cert, error) {
	if len(chain) == 0 {
		return api.Cert{}, fault{api.ErrPathNone}
	}
	if len(chain) > api.MaxChain || len(anchors) > api.MaxAnchors {
		return api.Cert{}, fault{api.ErrPathLong}
	}
	presented, err := parsed(chain)
	if err != nil {
		return api.Cert{}, err
	}
	trusted, err := parsed(anchors)
	if err != nil {
		return api.Cert{}, err
	}
	s := search{judge: judge{slices.Concat(trusted, presented), now, purpose}, leaf: len(trusted), issuers: map[int][]int{}}
	switch {
	case s.look(slices.Contains(anchors, chain[0])):
		return presented[0], nil
	case s.why == nil:
		return api.Cert{}, fault{api.ErrPathNone}
	}
	return api.Cert{}, s.why
}

func parsed(forms []string) ([]api.Cert, error) {
	var l []api.Cert
	for i, s := range forms {
		c, e := cert.Parse(s)
		if e != api.OK {
			return nil, at{i, fault{e}}
		}
		l = append(l, c)
	}
	return l, nil
}

// look: is there a path that holds? The leaf alone is one, if it is an anchor.
func (s *search) look(anchor bool) bool {
	leaf := s.further(begun{sound: true}, s.leaf)
	taken := anchor && s.holds(leaf)
	work := []begun{leaf}
looking:
	for !taken && len(work) > 0 {
		b := work[len(work)-1]
		work = work[:len(work)-1]
		// What doesn't hold can't become a path that does: it is gone on with just for the first path's error.
		if s.why != nil && !b.sound {
			continue
		}
		var next []begun
		for _, x := range s.issuersOf(b.row[len(b.row)-1]) {
			switch {
			case x < s.leaf:
				if taken = s.holds(s.further(b, x)); taken {
					break looking
				}
			case !slices.Contains(b.row, x):
				next = append(next, s.further(b, x))
			}
		}
		// The last one is taken up first.
		slices.Reverse(next)
		work = append(work, next...)
	}
	return taken
}

// further is a beginning with one certificate more.
func (s *search) further(b begun, x int) begun {
	return begun{slices.Concat(b.row, []int{x}), b.sound && s.fits(b.row, x)}
}

// holds: does a path hold that was found? Of the first one that doesn't it is kept why.
func (s *search) holds(path begun) bool {
	if !path.sound && s.why == nil {
		s.why = s.fault(path.row)
	}
	return path.sound
}

// issuersOf are the places of those by which the certificate x is issued.
func (s *search) issuersOf(x int) []int {
	l, known := s.issuers[x]
	if !known {
		for by := range s.certs {
			if Issued(s.certs[x], s.certs[by]) {
				l = append(l, by)
			}
		}
		s.issuers[x] = l
	}
	return l
}
