package hash

import "ostiary/api"

// Mac: HMAC, by a kind.
func Mac(kind int, key, s string) (string, api.Errno) {
	if !known(kind) {
		return "", api.ErrHashKind
	}
	return mac(kind, key, s), api.OK
}

// Mac256: HMAC by SHA-256.
func Mac256(key, s string) string { return mac(api.Sha256, key, s) }

func mac(kind int, key, s string) string {
	k := keyBlock(kind, key)
	inner := open(kind)
	inner.Write(masked(k, 54))
	inner.Write(s)
	outer := open(kind)
	outer.Write(masked(k, 92))
	outer.Write(inner.Sum())
	return outer.Sum()
}

// keyBlock is the key, or its sum, with bytes 0 behind it up to a block's length.
func keyBlock(kind int, key string) []byte {
	k := make([]byte, planOf(kind).block())
	if len(key) > len(k) {
		key = sum(kind, key)
	}
	copy(k, key)
	return k
}

func masked(k []byte, mask byte) string {
	b := make([]byte, len(k))
	for i, c := range k {
		b[i] = c ^ mask
	}
	return string(b)
}
