package cert_test

// What the chapter says, once more and by other means: patterns over values that are written out, the library's calendar and curves. The tests hold the package against it.

import (
	"crypto/ecdh"
	"encoding/asn1"
	"encoding/hex"
	"math/big"
	"regexp"
	"strconv"
	"strings"
	"time"

	"ostiary/api"
	"ostiary/der"
)

// written writes a value out: its tag (ahead of it its class, if that is not 0), and its bytes in base sixteen or its elements.
func written(d api.Der) string {
	s := strconv.Itoa(d.Tag)
	if d.Class != 0 {
		s = "c" + strconv.Itoa(d.Class) + "." + s
	}
	if !d.Cons {
		return s + ":" + hex.EncodeToString([]byte(d.Bytes)) + ";"
	}
	s += "("
	for _, x := range d.List {
		s += written(x)
	}
	return s + ")"
}

func pattern(s string) *regexp.Regexp { return regexp.MustCompile(`^(?:` + s + `)$`) }

const (
	anyOid  = `6:[0-9a-f]*;`
	anyHost = `c2\.2:(?:[0-9a-f]{2})*;`
	oneHost = `16\(` + anyHost + `\)`
)

var (
	versionPattern     = pattern(`c2\.0\(2:02;\)`)
	serialPattern      = pattern(`2:[0-7][0-9a-f](?:[0-9a-f]{2}){0,19};`)
	rsaAlgPattern      = pattern(`16\(6:2a864886f70d01010b;5:;\)`)
	ecAlgPattern       = pattern(`16\(6:2a8648ce3d040302;\)`)
	wholePattern       = pattern(`3:00(?:[0-9a-f]{2})*;`)
	numbersPattern     = pattern(`16\(2:[0-7][0-9a-f]*;2:[0-7][0-9a-f]*;\)`)
	attrPattern        = pattern(`17\(16\(` + anyOid + `(?:12|19|22):(?:[0-9a-f]{2}){1,64};\)\)`)
	timePattern        = pattern(`16\(2[34]:[0-9a-f]*;2[34]:[0-9a-f]*;\)`)
	rsaKeyPattern      = pattern(`16\(16\(6:2a864886f70d010101;5:;\)3:00(?:[0-9a-f]{2})*;\)`)
	ecKeyPattern       = pattern(`16\(16\(6:2a8648ce3d0201;6:2a8648ce3d030107;\)3:0004[0-9a-f]{128};\)`)
	extPattern         = pattern(`16\(` + anyOid + `(?:1:ff;)?4:[0-9a-f]*;\)`)
	usagePattern       = pattern(`3:0[0-7](?:[0-9a-f]{2}){1,2};`)
	caPattern          = pattern(`16\((?:1:ff;(?:2:[0-7][0-9a-f];)?)?\)`)
	constraintsPattern = pattern(`16\((?:c2\.0\((?:` + oneHost + `){1,16}\))?(?:c2\.1\((?:` + oneHost + `){1,16}\))?\)`)
	purposesPattern    = pattern(`16\((?:` + anyOid + `){1,8}\)`)
	hostPattern        = pattern(`(?:[a-z0-9](?:[a-z0-9-]{0,61}[a-z0-9])?\.)*[a-z0-9](?:[a-z0-9-]{0,61}[a-z0-9])?`)
)

func fits(p *regexp.Regexp, d api.Der) bool { return p.MatchString(written(d)) }

func modelHost(s string) bool { return len(s) <= 253 && hostPattern.MatchString(s) }

func whole(s string) *big.Int { return new(big.Int).SetBytes([]byte(s)) }

// modelParse is what the chapter says of a text that der.Parse takes.
func modelParse(s string) (api.Cert, api.Errno) {
	d, e := der.Parse(s)
	if e != api.OK {
		return api.Cert{}, e
	}
	if !modelForm(d) {
		return api.Cert{}, api.ErrCertForm
	}
	tbs := d.List[0].List
	c := api.Cert{PathLen: -1, Usage: -1, Serial: string(whole(tbs[1].Bytes).Bytes())}
	c.Tbs = form(d.List[0])
	for _, part := range []func(c *api.Cert, d api.Der) api.Errno{modelSig, modelNames, modelTimes, modelKey, modelExts} {
		if e := part(&c, d); e != api.OK {
			return api.Cert{}, e
		}
	}
	return c, api.OK
}

func modelForm(d api.Der) bool {
	if d.Tag != 16 || len(d.List) != 3 || d.Class != 0 || !strings.HasPrefix(written(d.List[0]), "16(") || !strings.HasPrefix(written(d.List[1]), "16(") || !fits(wholePattern, d.List[2]) {
		return false
	}
	l := d.List[0].List
	if len(l) < 7 || len(l) > 8 || !fits(versionPattern, l[0]) || !fits(serialPattern, l[1]) || written(l[1]) == "2:00;" {
		return false
	}
	w := written(seq(l[7:]...))
	return w == "16()" || strings.HasPrefix(w, "16(c2.3(16(") && len(l[7].List) == 1 && len(l[7].List[0].List) > 0
}

func modelSig(c *api.Cert, d api.Der) api.Errno {
	outer, inner, sig := d.List[1], d.List[0].List[2], d.List[2].Bytes[1:]
	if fits(rsaAlgPattern, outer) && fits(rsaAlgPattern, inner) {
		c.Alg, c.Sig = api.CertRsa, sig
		return api.OK
	}
	v, e := der.Parse(sig)
	if !fits(ecAlgPattern, outer) || !fits(ecAlgPattern, inner) || e != api.OK || !fits(numbersPattern, v) {
		return api.ErrCertAlg
	}
	r, t := whole(v.List[0].Bytes), whole(v.List[1].Bytes)
	if r.BitLen() > 256 || t.BitLen() > 256 {
		return api.ErrCertAlg
	}
	c.Alg, c.Sig = api.CertEc, string(r.FillBytes(make([]byte, 32)))+string(t.FillBytes(make([]byte, 32)))
	return api.OK
}

func modelNames(c *api.Cert, d api.Der) api.Errno {
	for i, to := range map[int]*[]api.Attr{3: &c.Issuer, 5: &c.Subject} {
		x := d.List[0].List[i]
		if !strings.HasPrefix(written(x), "16(") || len(x.List) > 8 {
			return api.ErrCertName
		}
		for _, a := range x.List {
			if !fits(attrPattern, a) {
				return api.ErrCertName
			}
			pair := a.List[0].List
			*to = append(*to, api.Attr{Type: dotted(pair[0]), Value: pair[1].Bytes})
		}
	}
	return api.OK
}

// dotted is an OID's text by the library.
func dotted(d api.Der) string {
	var id asn1.ObjectIdentifier
	if _, err := asn1.Unmarshal([]byte(form(d)), &id); err != nil {
		panic(err)
	}
	return id.String()
}

func modelTime(d api.Der) (int, bool) {
	s, short := d.Bytes, d.Tag == api.DerUtc
	if short && s[0] >= '5' {
		s = "19" + s
	} else if short {
		s = "20" + s
	}
	t, err := time.Parse("20060102150405Z", s)
	if err != nil {
		panic(err)
	}
	return int(t.Unix()), short || t.Year() < 1950 || t.Year() > 2049
}

func modelTimes(c *api.Cert, d api.Der) api.Errno {
	x := d.List[0].List[4]
	if !fits(timePattern, x) {
		return api.ErrCertTime
	}
	from, ok := modelTime(x.List[0])
	to, right := modelTime(x.List[1])
	if !ok || !right || from > to {
		return api.ErrCertTime
	}
	c.From, c.To = from, to
	return api.OK
}

func modelKey(c *api.Cert, d api.Der) api.Errno {
	x := d.List[0].List[6]
	if fits(ecKeyPattern, x) {
		point := x.List[1].Bytes[1:]
		if _, err := ecdh.P256().NewPublicKey([]byte(point)); err != nil {
			return api.ErrCertKey
		}
		c.Kind, c.Ec = api.CertEc, api.EcKey{X: point[1:33], Y: point[33:]}
		return api.OK
	}
	if !fits(rsaKeyPattern, x) {
		return api.ErrCertKey
	}
	v, f := der.Parse(x.List[1].Bytes[1:])
	if f != api.OK || !fits(numbersPattern, v) {
		return api.ErrCertKey
	}
	n, e := whole(v.List[0].Bytes), whole(v.List[1].Bytes)
	if n.BitLen() < 512 || n.BitLen() > 2048 || n.Bit(0) == 0 || e.BitLen() < 2 || e.BitLen() > 32 || e.Bit(0) == 0 {
		return api.ErrCertKey
	}
	c.Kind, c.Rsa = api.CertRsa, api.RsaKey{N: string(n.Bytes()), E: string(e.Bytes())}
	return api.OK
}

func modelExts(c *api.Cert, d api.Der) api.Errno {
	if len(d.List[0].List) == 7 {
		return api.OK
	}
	stood := " "
	for _, x := range d.List[0].List[7].List[0].List {
		if !fits(extPattern, x) {
			return api.ErrCertExt
		}
		id := dotted(x.List[0])
		if strings.Contains(stood, " "+id+" ") {
			return api.ErrCertTwice
		}
		stood += id + " "
		if e := modelValue(c, id, x.List[len(x.List)-1].Bytes, len(x.List) == 3); e != api.OK {
			return e
		}
	}
	return api.OK
}

func modelValue(c *api.Cert, id, s string, critical bool) api.Errno {
	models := map[string]func(c *api.Cert, v api.Der) bool{usageId: modelUsage, dnsId: modelDns, caId: modelCa, constraintsId: modelConstraints, purposesId: modelPurposes}
	if models[id] == nil {
		if critical {
			c.Unknown = append(c.Unknown, id)
		}
		return api.OK
	}
	if v, e := der.Parse(s); e != api.OK || !models[id](c, v) {
		return api.ErrCertExt
	}
	return api.OK
}

func modelUsage(c *api.Cert, v api.Der) bool {
	if !fits(usagePattern, v) {
		return false
	}
	digits := ""
	for _, b := range []byte(v.Bytes[1:]) {
		digits += strconv.FormatInt(256+int64(b), 2)[1:]
	}
	digits = digits[:len(digits)-int(v.Bytes[0])]
	if len(digits) > 9 || !strings.HasSuffix(digits, "1") {
		return false
	}
	c.Usage = 0
	for i, x := range digits {
		if x == '1' {
			c.Usage += 1 << i
		}
	}
	return true
}

func modelDns(c *api.Cert, v api.Der) bool {
	if !strings.HasPrefix(written(v), "16(") || len(v.List) < 1 || len(v.List) > 16 {
		return false
	}
	for _, x := range v.List {
		w := written(x)
		switch {
		case !strings.HasPrefix(w, "c2."):
			return false
		case strings.HasPrefix(w, "c2.2:") && modelHost(x.Bytes):
			c.Dns = append(c.Dns, x.Bytes)
		case strings.HasPrefix(w, "c2.2:"), strings.HasPrefix(w, "c2.2("):
			return false
		}
	}
	return true
}

func modelCa(c *api.Cert, v api.Der) bool {
	if !fits(caPattern, v) {
		return false
	}
	c.Ca = strings.Contains(written(v), "1:ff;")
	if len(v.List) == 2 {
		c.PathLen = int(whole(v.List[1].Bytes).Int64())
	}
	return true
}

func modelConstraints(c *api.Cert, v api.Der) bool {
	if !fits(constraintsPattern, v) || len(v.List) == 0 {
		return false
	}
	for _, x := range v.List {
		to := []*[]string{&c.Permit, &c.Exclude}[x.Tag]
		for _, y := range x.List {
			if !modelHost(y.List[0].Bytes) {
				return false
			}
			*to = append(*to, y.List[0].Bytes)
		}
	}
	return true
}

func modelPurposes(c *api.Cert, v api.Der) bool {
	if !fits(purposesPattern, v) {
		return false
	}
	for _, x := range v.List {
		c.Purposes = append(c.Purposes, dotted(x))
	}
	return true
}
