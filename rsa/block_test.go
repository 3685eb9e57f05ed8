package rsa_test

// P4.2: the block of RS256, and masks.

import (
	"encoding/hex"
	"math"
	"strings"
	"testing"

	"ostiary/api"
	"ostiary/rsa"
)

func TestBlockExamples(t *testing.T) {
	b, f := rsa.Block("abc", 62)
	if f != api.OK || len(b) != 62 || hex.EncodeToString([]byte(b[:12])) != "0001ffffffffffffffff0030" {
		t.Errorf("%x, %d", b, f)
	}
	// The whole of it, written out.
	const whole = "0001ffffffffffffffff003031300d060960864801650304020105000420ba7816bf8f01cfea414140de5dae2223b00361a396177a9cb410ff61f20015ad"
	if hex.EncodeToString([]byte(b)) != whole {
		t.Errorf("%x, not %s", b, whole)
	}
	if b, f := rsa.Block("abc", 61); b != "" || f != api.ErrRsaBlock {
		t.Errorf("%x, %d", b, f)
	}
}

func TestBlockOfEachSize(t *testing.T) {
	for n := -3; n <= 520; n++ {
		for _, s := range []string{"", "abc", noise(n+3, 100)} {
			b, f := rsa.Block(s, n)
			if n < 62 || n > 512 {
				if b != "" || f != api.ErrRsaBlock {
					t.Errorf("of %d bytes: %x, %d", n, b, f)
				}
			} else if b != blockOf(s, n) || f != api.OK {
				t.Errorf("of %d bytes: %x, %d, not %x", n, b, f, blockOf(s, n))
			}
		}
	}
	for _, n := range farOut() {
		if b, f := rsa.Block("abc", n); b != "" || f != api.ErrRsaBlock {
			t.Errorf("of %d bytes: %x, %d", n, b, f)
		}
	}
}

// farOut are no sizes.
func farOut() []int {
	return []int{math.MinInt, math.MinInt + 1, math.MinInt32, -513, -1, 513, 1 << 16, math.MaxInt32, math.MaxInt - 7, math.MaxInt}
}

func TestMaskExamples(t *testing.T) {
	if m, f := rsa.Mask("foo", 3); m != sumOf("foo\x00\x00\x00\x00")[:3] || f != api.OK {
		t.Errorf("%x, %d", m, f)
	}
	if m, f := rsa.Mask("foo", 0); m != "" || f != api.OK {
		t.Errorf("%x, %d", m, f)
	}
	if m, f := rsa.Mask("", -1); m != "" || f != api.ErrRsaBlock {
		t.Errorf("%x, %d", m, f)
	}
}

func TestMaskOfEachSize(t *testing.T) {
	for _, seed := range []string{"", "foo", nought, noise(1, 27), noise(2, 32), noise(3, 51), noise(4, 52), noise(5, 60), noise(6, 64), noise(7, 1000)} {
		for n := range 513 {
			if m, f := rsa.Mask(seed, n); m != maskOf(seed, n) || f != api.OK {
				t.Errorf("%d bytes of %x: %x, %d", n, seed, m, f)
			}
		}
		for _, n := range farOut() {
			if m, f := rsa.Mask(seed, n); m != "" || f != api.ErrRsaBlock {
				t.Errorf("%d bytes: %x, %d", n, m, f)
			}
		}
	}
}

func TestMaskOfLongSeed(t *testing.T) {
	seed := strings.Repeat(full, 1<<20)
	if m, f := rsa.Mask(seed, 512); m != maskOf(seed, 512) || f != api.OK {
		t.Errorf("%x, %d", m, f)
	}
}
