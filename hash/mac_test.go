package hash_test

// P2.1 and P2.3 of macs.

import (
	"crypto/hmac"
	"crypto/sha256"
	"crypto/sha512"
	"strings"
	"testing"

	"ostiary/api"
	"ostiary/hash"
)

// block is how many bytes a kind's block has.
func block(kind int) int { return 64 << kind }

// macWanted is the mac by another program.
func macWanted(kind int, key, s string) string {
	sum := sha512.New384
	if kind == api.Sha256 {
		sum = sha256.New
	}
	m := hmac.New(sum, []byte(key))
	m.Write([]byte(s))
	return string(m.Sum(nil))
}

func wantMac(t *testing.T, kind int, key, s string) {
	t.Helper()
	want := macWanted(kind, key, s)
	if x, e := hash.Mac(kind, key, s); x != want || e != api.OK {
		t.Errorf("Mac(%d) of a key of %d, %d bytes: %x, %d, not %x", kind, len(key), len(s), x, e, want)
	}
	if kind == api.Sha256 && hash.Mac256(key, s) != want {
		t.Errorf("Mac256 of a key of %d, %d bytes", len(key), len(s))
	}
}

func macOf(t *testing.T, kind int, key, s string) string {
	t.Helper()
	x, e := hash.Mac(kind, key, s)
	if e != api.OK {
		t.Fatalf("Mac(%d): %d", kind, e)
	}
	return x
}

// The cases of RFC 4231.
func TestMacExamples(t *testing.T) {
	const what = "what do ya want for nothing?"
	wantText(t, "Mac256", hash.Mac256("Jefe", what), "5bdcc146 bf60754e 6a042426 089575c7 5a003f08 9d273983 9dec58b9 64ec3843")
	wantText(t, "Mac of Sha256", macOf(t, api.Sha256, "Jefe", what), "5bdcc146 bf60754e 6a042426 089575c7 5a003f08 9d273983 9dec58b9 64ec3843")
	wantText(t, "Mac of Sha384", macOf(t, api.Sha384, "Jefe", what), "af45d2e376484031 617f78d2b58a6b1b 9c7ef464f5a01b47 e42ec3736322445e 8e2240ca5e69e2c7 8b3239ecfab21649")
	key := strings.Repeat("\x0b", 20)
	wantText(t, "Mac256", hash.Mac256(key, "Hi There"), "b0344c61 d8db3853 5ca8afce af0bf12b 881dc200 c9833da7 26e9376c 2e32cff7")
	wantText(t, "Mac of Sha384", macOf(t, api.Sha384, key, "Hi There"), "afd03944d8489562 6b0825f4ab46907f 15f9dadbe4101ec6 82aa034c7cebc59c faea9ea9076ede7f 4af152e8b2fa9cb6")
	long := strings.Repeat("\xaa", 131)
	wantText(t, "Mac256", hash.Mac256(long, "Test Using Larger Than Block-Size Key - Hash Key First"), "60e43159 1ee0b67f 0d8a26aa cbf5b77f 8e0bc621 3728c514 0546040f 0ee37f54")
}

func TestMacOfEachKeyLength(t *testing.T) {
	key, s := noise(300), noise(150)
	for kind := range api.Hashes {
		for n := range len(key) + 1 {
			wantMac(t, kind, key[:n], s)
			wantMac(t, kind, key[:n], "")
			wantMac(t, kind, s[:n/2], key[n:])
		}
	}
}

func TestMacOfManyBytes(t *testing.T) {
	s := noise(1<<16 + 1)
	for kind := range api.Hashes {
		wantMac(t, kind, "key", s)
		wantMac(t, kind, s, "bytes")
		wantMac(t, kind, s, s)
	}
}

// A mac is two sums.
func TestMacIsTwoSums(t *testing.T) {
	for kind := range api.Hashes {
		for n := range block(kind) + 1 {
			key, s := noise(n), noise(2*n)
			inner, outer := make([]byte, block(kind)), make([]byte, block(kind))
			copy(inner, key)
			copy(outer, key)
			for i := range inner {
				inner[i] ^= 54
				outer[i] ^= 92
			}
			first, _ := hash.Sum(kind, string(inner)+s)
			if second, _ := hash.Sum(kind, string(outer)+first); macOf(t, kind, key, s) != second {
				t.Errorf("Mac(%d) of a key of %d bytes is not two sums", kind, n)
			}
		}
	}
}

// A key beyond a block is as good as its sum; a key of just a block is not, and a shorter one is as good as with bytes 0.
func TestMacOfKeysThatAreAsGood(t *testing.T) {
	for kind := range api.Hashes {
		whole := block(kind)
		for n := range 3 * whole {
			key := noise(n)
			sum, _ := hash.Sum(kind, key)
			if (macOf(t, kind, key, "abc") == macOf(t, kind, sum, "abc")) != (n > whole) {
				t.Errorf("Mac(%d): a key of %d bytes, and its sum", kind, n)
			}
			for more := range max(whole-n, 0) + 1 {
				if macOf(t, kind, key, "abc") != macOf(t, kind, key+strings.Repeat("\x00", more), "abc") && n <= whole {
					t.Errorf("Mac(%d): a key of %d bytes, and with %d bytes 0", kind, n, more)
				}
			}
		}
		if key := noise(whole); macOf(t, kind, key, "abc") == macOf(t, kind, key+"\x00", "abc") {
			t.Errorf("Mac(%d): a byte 0 beyond the block", kind)
		}
	}
}

func TestMacOfOtherKinds(t *testing.T) {
	for _, kind := range others() {
		for _, key := range []string{"", "key", noise(200)} {
			if x, e := hash.Mac(kind, key, "abc"); x != "" || e != api.ErrHashKind {
				t.Errorf("Mac(%d): %x, %d", kind, x, e)
			}
		}
	}
}
