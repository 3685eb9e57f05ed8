package rsa

import (
	"strings"

	"ostiary/api"
	"ostiary/hash"
)

const (
	sumSize   = 32
	blockHead = "\x00\x01"
	leastFull = "\xff\xff\xff\xff\xff\xff\xff\xff"
	// What is behind the bytes 255 says by which function the sum is made.
	sumHead    = "\x00\x30\x31\x30\x0d\x06\x09\x60\x86\x48\x01\x65\x03\x04\x02\x01\x05\x00\x04\x20"
	leastBlock = len(blockHead+leastFull+sumHead) + sumSize
)

func block(s string, n int) (string, error) {
	if n < leastBlock || n > api.MaxNat {
		return "", about{"the length", errBlock}
	}
	more := strings.Repeat("\xff", n-leastBlock)
	return blockHead + leastFull + more + sumHead + hash.Sum256(s), nil
}
