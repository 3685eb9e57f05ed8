// Package text is layer 1: bytes as text, and a cursor over bytes. See shared/doc/01-text.md.
package text

// Same: are they the same bytes?
func Same(a, b string) bool {
	// No way out ahead of the end: how long it takes must not tell where two secrets differ.
	diff := len(a) ^ len(b)
	for i := range max(len(a), len(b)) {
		diff |= int(byteOrNought(a, i) ^ byteOrNought(b, i))
	}
	return diff == 0
}

func byteOrNought(s string, i int) byte {
	if i < len(s) {
		return s[i]
	}
	return 0
}
