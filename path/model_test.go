package path_test

// What the chapter says, once more and by other means: all paths are written out ahead of asking any, and signatures are the library's. The tests hold the package against it.

import (
	"crypto"
	stdecdsa "crypto/ecdsa"
	"crypto/elliptic"
	stdrsa "crypto/rsa"
	"crypto/sha256"
	"math/big"
	"strings"

	"ostiary/api"
	"ostiary/cert"
)

func whole(s string) *big.Int { return new(big.Int).SetBytes([]byte(s)) }

// modelSigned is by the library; of keys and signatures that it can't read it is false.
func modelSigned(c, by api.Cert) bool {
	sum := sha256.Sum256([]byte(c.Tbs))
	switch {
	case c.Alg == api.CertRsa && by.Kind == api.CertRsa:
		k := &stdrsa.PublicKey{N: whole(by.Rsa.N), E: int(whole(by.Rsa.E).Int64())}
		return stdrsa.VerifyPKCS1v15(k, crypto.SHA256, sum[:], []byte(c.Sig)) == nil
	case c.Alg == api.CertEc && by.Kind == api.CertEc:
		k, err := stdecdsa.ParseUncompressedPublicKey(elliptic.P256(), []byte("\x04"+by.Ec.X+by.Ec.Y))
		return err == nil && len(c.Sig) == 64 && stdecdsa.Verify(k, sum[:], whole(c.Sig[:32]), whole(c.Sig[32:]))
	}
	return false
}

// flat is a name as one text.
func flat(l []api.Attr) string {
	s := ""
	for _, a := range l {
		s += a.Type + "=" + a.Value + ";"
	}
	return s
}

func modelIssued(c, by api.Cert) bool {
	return flat(c.Issuer) != "" && flat(c.Issuer) == flat(by.Subject) && modelSigned(c, by)
}

// modelWithin: the other one, whole labels taken away ahead, is the same.
func modelWithin(host, of string) bool {
	for {
		if host == of {
			return true
		}
		i := strings.IndexByte(host, '.')
		if i < 0 {
			return false
		}
		host = host[i+1:]
	}
}

func modelTime(l []api.Cert, now int) bool {
	for _, c := range l {
		if !(c.From <= now && now <= c.To) {
			return true
		}
	}
	return false
}

func modelCa(l []api.Cert) bool {
	for _, c := range l[1:] {
		if !c.Ca || c.Usage != -1 && c.Usage/32%2 == 0 {
			return true
		}
	}
	return false
}

func modelDepth(l []api.Cert) bool {
	for i, c := range l {
		n := 0
		for k, x := range l {
			if 0 < k && k < i && flat(x.Issuer) != flat(x.Subject) {
				n++
			}
		}
		if i > 0 && c.PathLen != -1 && n > c.PathLen {
			return true
		}
	}
	return false
}

func modelWithinOne(host string, l []string) bool {
	for _, of := range l {
		if modelWithin(host, of) {
			return true
		}
	}
	return false
}

func modelNames(l []api.Cert) bool {
	for i, c := range l {
		for k, x := range l[:i] {
			if k > 0 && flat(x.Issuer) == flat(x.Subject) {
				continue
			}
			for _, host := range x.Dns {
				if len(c.Permit) != 0 && !modelWithinOne(host, c.Permit) || modelWithinOne(host, c.Exclude) {
					return true
				}
			}
		}
	}
	return false
}

func modelUsage(l []api.Cert, purpose string) bool {
	for _, c := range l {
		all := " " + strings.Join(c.Purposes, " ") + " "
		if len(c.Purposes) > 0 && purpose != "" && !strings.Contains(all, " "+purpose+" ") && !strings.Contains(all, " 2.5.29.37.0 ") {
			return true
		}
	}
	return l[0].Usage != -1 && l[0].Usage%2 == 0
}

func modelOther(l []api.Cert) bool {
	for _, c := range l {
		if len(c.Unknown) > 0 {
			return true
		}
	}
	return false
}

// modelSix is the first of the six that is so of a path.
func modelSix(l []api.Cert, now int, purpose string) api.Errno {
	switch {
	case modelTime(l, now):
		return api.ErrPathTime
	case modelCa(l):
		return api.ErrPathCa
	case modelDepth(l):
		return api.ErrPathDepth
	case modelNames(l):
		return api.ErrPathNames
	case modelUsage(l, purpose):
		return api.ErrPathUsage
	case modelOther(l):
		return api.ErrPathOther
	}
	return api.OK
}

func modelHolds(l []api.Cert, now int, purpose string) api.Errno {
	switch {
	case len(l) == 0:
		return api.ErrPathNone
	case len(l) > 9:
		return api.ErrPathLong
	}
	for i, c := range l[1:] {
		if !modelIssued(l[i], c) {
			return api.ErrPathSig
		}
	}
	return modelSix(l, now, purpose)
}

// graph is a chain and anchors, read, and which of them issues which one of the chain.
type graph struct {
	chain, anchors       []api.Cert
	alone                bool
	byAnchor, byPresents [][]bool
}

// graphOf is that of forms that may all be.
func graphOf(chain, anchors []string, issued func(c, by string) bool) graph {
	g := graph{}
	for _, s := range anchors {
		c, _ := cert.Parse(s)
		g.anchors = append(g.anchors, c)
		g.alone = g.alone || s == chain[0]
	}
	for _, s := range chain {
		c, _ := cert.Parse(s)
		g.chain = append(g.chain, c)
		var byAnchor, byPresents []bool
		for _, by := range anchors {
			byAnchor = append(byAnchor, issued(s, by))
		}
		for _, by := range chain {
			byPresents = append(byPresents, issued(s, by))
		}
		g.byAnchor, g.byPresents = append(g.byAnchor, byAnchor), append(g.byPresents, byPresents)
	}
	return g
}

// paths are all that are found, in order.
func (g graph) paths() [][]api.Cert {
	var out [][]api.Cert
	if g.alone {
		out = append(out, g.chain[:1])
	}
	var look func(row []int)
	look = func(row []int) {
		var begun []api.Cert
		stands := map[int]bool{}
		for _, x := range row {
			begun = append(begun, g.chain[x])
			stands[x] = true
		}
		last := row[len(row)-1]
		for i, a := range g.anchors {
			if g.byAnchor[last][i] {
				out = append(out, append(begun[:len(begun):len(begun)], a))
			}
		}
		for i := range g.chain {
			if !stands[i] && g.byPresents[last][i] {
				look(append(row[:len(row):len(row)], i))
			}
		}
	}
	look([]int{0})
	return out
}

// decide is the answer, and how many paths there are, and the place of the one that holds.
func (g graph) decide(now int, purpose string) (e api.Errno, paths, place int) {
	all := g.paths()
	for i, l := range all {
		if modelSix(l, now, purpose) == api.OK {
			return api.OK, len(all), i
		}
	}
	if len(all) == 0 {
		return api.ErrPathNone, 0, -1
	}
	return modelSix(all[0], now, purpose), len(all), -1
}
