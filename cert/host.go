package cert

import (
	"strings"

	"ostiary/api"
)

const (
	mostHost  = 253 // bytes
	mostLabel = 63
	tagHost   = 2
)

// Host: is it one?
func Host(s string) bool {
	if len(s) > mostHost {
		return false
	}
	for label := range strings.SplitSeq(s, ".") {
		if !isLabel(label) {
			return false
		}
	}
	return true
}

func isLabel(s string) bool {
	if s == "" || len(s) > mostLabel || s[0] == '-' || s[len(s)-1] == '-' {
		return false
	}
	for i := range len(s) {
		if !isLabelByte(s[i]) {
			return false
		}
	}
	return true
}

func isLabelByte(c byte) bool { return 'a' <= c && c <= 'z' || '0' <= c && c <= '9' || c == '-' }

// isHost: is it the value that a host stands in?
func isHost(d api.Der) bool { return isContext(d, tagHost, false) && Host(d.Bytes) }
