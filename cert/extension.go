package cert

import (
	"strconv"

	"ostiary/api"
	"ostiary/der"
)

// extension is one: its OID's text, whether it is critical, and its octets.
type extension struct {
	id       string
	critical bool
	octets   string
}

func readExtensions(c *api.Cert, l []api.Der) error {
	stood := map[string]struct{}{}
	for i, d := range l {
		if err := readExtension(c, d, stood); err != nil {
			return inside{"extension " + strconv.Itoa(i), err}
		}
	}
	return nil
}

// readExtension reads the next one behind those that stood ahead, and keeps that it stood.
func readExtension(c *api.Cert, d api.Der, stood map[string]struct{}) error {
	x, ok := extensionOf(d)
	if !ok {
		return fault{api.ErrCertExt}
	}
	if _, twice := stood[x.id]; twice {
		return inside{x.id, fault{api.ErrCertTwice}}
	}
	stood[x.id] = struct{}{}
	read := readerOf(x.id)
	if read == nil {
		// What is critical and not known must be told, so that nobody passes it over.
		if x.critical {
			c.Unknown = append(c.Unknown, x.id)
		}
		return nil
	}
	if v, e := der.Parse(x.octets); e != api.OK || !read(c, v) {
		return inside{x.id, fault{api.ErrCertExt}}
	}
	return nil
}

func extensionOf(d api.Der) (extension, bool) {
	if !isSeq(d, 2, 3) {
		return extension{}, false
	}
	critical := len(d.List) == 3
	octets := d.List[len(d.List)-1]
	id, e := der.Oid(d.List[0])
	if e != api.OK || critical && !isYes(d.List[1]) || !is(octets, api.DerOctets) {
		return extension{}, false
	}
	return extension{id, critical, octets.Bytes}, true
}
