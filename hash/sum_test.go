package hash_test

// P2.1 of sums, and R2 of kinds that are none.

import (
	"crypto/sha256"
	"crypto/sha512"
	"encoding/hex"
	"math"
	"strings"
	"testing"

	"ostiary/api"
	"ostiary/hash"
)

// noise is the same bytes on every run, of all values, without a rule that the program could share.
func noise(n int) string {
	b := make([]byte, n)
	x := uint32(2463534242)
	for i := range b {
		x ^= x << 13
		x ^= x >> 17
		x ^= x << 5
		b[i] = byte(x >> 11)
	}
	return string(b)
}

// others are kinds that are none.
func others() []int {
	return []int{-1, 2, 3, -2, 256, 257, 384, 1 << 32, 1<<32 + 1, math.MaxInt, math.MinInt, math.MinInt + 1}
}

// sumWanted is the sum by another program.
func sumWanted(kind int, s string) string {
	if kind == api.Sha256 {
		x := sha256.Sum256([]byte(s))
		return string(x[:])
	}
	x := sha512.Sum384([]byte(s))
	return string(x[:])
}

func wantSum(t *testing.T, kind int, s string) {
	t.Helper()
	want := sumWanted(kind, s)
	if x, e := hash.Sum(kind, s); x != want || e != api.OK {
		t.Errorf("Sum(%d) of %d bytes: %x, %d, not %x", kind, len(s), x, e, want)
	}
	at := hash.Sum384
	if kind == api.Sha256 {
		at = hash.Sum256
	}
	if x := at(s); x != want {
		t.Errorf("kind %d at once, of %d bytes: %x, not %x", kind, len(s), x, want)
	}
}

func wantSums(t *testing.T, s string) {
	t.Helper()
	wantSum(t, api.Sha256, s)
	wantSum(t, api.Sha384, s)
}

func wantText(t *testing.T, what, s, want string) {
	t.Helper()
	if x := hex.EncodeToString([]byte(s)); x != strings.ReplaceAll(want, " ", "") {
		t.Errorf("%s: %s, not %s", what, x, want)
	}
}

func TestSumExamples(t *testing.T) {
	for s, want := range map[string]string{
		"":    "e3b0c442 98fc1c14 9afbf4c8 996fb924 27ae41e4 649b934c a495991b 7852b855",
		"abc": "ba7816bf 8f01cfea 414140de 5dae2223 b00361a3 96177a9c b410ff61 f20015ad",
		"abcdbcdecdefdefgefghfghighijhijkijkljklmklmnlmnomnopnopq": "248d6a61 d20638b8 e5c02693 0c3e6039 a33ce459 64ff2167 f6ecedd4 19db06c1",
		strings.Repeat("a", 1000000):                               "cdc76e5c 9914fb92 81a1c7e2 84d73e67 f1809a48 a497200e 046d39cc c7112cd0",
	} {
		wantText(t, "Sum256", hash.Sum256(s), want)
	}
	for s, want := range map[string]string{
		"":    "38b060a751ac9638 4cd9327eb1b1e36a 21fdb71114be0743 4c0cc7bf63f6e1da 274edebfe76f65fb d51ad2f14898b95b",
		"abc": "cb00753f45a35e8b b5a03d699ac65007 272c32ab0eded163 1a8b605a43ff5bed 8086072ba1e7cc23 58baeca134c825a7",
		"abcdefghbcdefghicdefghijdefghijkefghijklfghijklmghijklmnhijklmnoijklmnopjklmnopqklmnopqrlmnopqrsmnopqrstnopqrstu": "09330c33f71147e8 3d192fc782cd1b47 53111b173b3b05d2 2fa08086e3b0f712 fcc7c71a557e2db9 66c3e9fa91746039",
		strings.Repeat("a", 1000000): "9d0e1809716474cb 086e834e310a4a1c ed149e9c00f24852 7972cec5704c2a5b 07b8b3dc38ecc4eb ae97ddd87f3d8985",
	} {
		wantText(t, "Sum384", hash.Sum384(s), want)
	}
}

// Each length about a block's end: the padding needs one block more, or none.
func TestSumOfEachLength(t *testing.T) {
	s := noise(600)
	for n := range len(s) + 1 {
		wantSums(t, s[:n])
		wantSums(t, strings.Repeat("\x00", n))
		wantSums(t, strings.Repeat("\xff", n))
		wantSums(t, s[len(s)-n:])
	}
}

func TestSumOfManyBytes(t *testing.T) {
	for _, n := range []int{8191, 8192, 1<<16 - 1, 1 << 16, 1<<20 + 1} {
		wantSums(t, noise(n))
	}
}

// Each bit of a block, and of the one behind it, counts.
func TestSumOfEachBit(t *testing.T) {
	for i := range 8 * 256 {
		b := make([]byte, 256)
		b[i/8] = 1 << (i % 8)
		wantSums(t, string(b))
	}
}

func TestSumOfOtherKinds(t *testing.T) {
	for _, kind := range others() {
		for _, s := range []string{"", "abc", noise(200)} {
			if x, e := hash.Sum(kind, s); x != "" || e != api.ErrHashKind {
				t.Errorf("Sum(%d): %x, %d", kind, x, e)
			}
		}
	}
}
