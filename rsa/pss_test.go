package rsa_test

// P4.2: which blocks fit as PSS.

import (
	"strings"
	"testing"

	"ostiary/rsa"
)

func wantFits(t *testing.T, what, s, block string, b int, wanted bool) {
	t.Helper()
	if got := rsa.Fits(s, block, b); got != wanted {
		t.Errorf("%s: %d bytes, %d digits: %t, %x", what, len(block), b, got, block)
	}
}

// From 521 digits on there are 66 bytes.
func TestFitsOfEachSize(t *testing.T) {
	for b := 521; b <= 4096; b++ {
		s, salt := noise(b, b%70), noise(b+1, 32)
		block := pssOf(s, salt, b)
		wantFits(t, "a block", s, block, b, true)
		wantFits(t, "of another text", s+"x", block, b, false)
		wantFits(t, "a byte ahead", s, nought+block, b, false)
		wantFits(t, "without its first byte", s, block[1:], b, false)
		wantFits(t, "a byte behind", s, block+"\xbc", b, false)
		wantFits(t, "eight digits more", s, block, b+8, false)
		wantFits(t, "eight digits fewer", s, block, b-8, false)
	}
}

func TestFitsOfTextsAndSalts(t *testing.T) {
	for _, s := range said() {
		for _, salt := range salts() {
			for _, b := range []int{521, 522, 527, 528, 529, 536, 1023, 2047, 2048, 4096} {
				wantFits(t, "a block", s, pssOf(s, salt, b), b, true)
			}
		}
	}
}

// Within as many bytes a block may have been made for more or fewer digits: the upper ones must be 0 in the block; behind the xor those of the number that is asked for count alone.
func TestFitsOfOtherDigits(t *testing.T) {
	yes, no := 0, 0
	for made := 521; made <= 560; made++ {
		for i := range 24 {
			salt := noise(100*made+i, 32)
			block := pssOf("abc", salt, made)
			n := len(block)
			first := maskOf(saltedSum("abc", salt), 1)[0]
			for b := 8*n - 7; b <= 8*n; b++ {
				spare := 8*n - b
				wanted := block[0]>>(8-spare) == 0 && (block[0]^first)<<spare == first0(n)<<spare
				wantFits(t, "other digits", "abc", block, b, wanted)
				if b != made && wanted {
					yes++
				} else if b != made {
					no++
				}
			}
		}
	}
	if yes == 0 || no == 0 {
		t.Errorf("%d fit, %d don't: both must be among them", yes, no)
	}
}

// first0 is what the first byte must be behind the xor: of 66 bytes it is the byte 1 itself.
func first0(n int) byte {
	if n == 66 {
		return 1
	}
	return 0
}

func TestFitsOfOtherBits(t *testing.T) {
	for _, b := range []int{521, 525, 528, 529, 535, 1024} {
		block := pssOf("abc", noise(b, 32), b)
		for at := range 8 * len(block) {
			wantFits(t, "another digit", "abc", flipped(block, at), b, false)
		}
	}
}

// Each of these blocks is right, but for one thing.
func TestFitsOfMadeUpBlocks(t *testing.T) {
	salt, eight := noise(1, 32), strings.Repeat(nought, 8)
	h := saltedSum("abc", salt)
	for _, b := range []int{544, 600, 601, 607, 608, 1023, 2048, 4096} {
		noughts := (b+7)/8 - 66
		ahead := strings.Repeat(nought, noughts)
		wantFits(t, "the right one", "abc", masked(ahead+"\x01"+salt, h, "\xbc", b), b, true)
		for _, x := range []struct{ what, ahead, h, end string }{
			{"the last byte", ahead + "\x01" + salt, h, "\xcc"},
			{"no last byte", ahead + nought + "\x01" + salt, h, ""},
			{"the byte ahead of the salt", ahead + "\x02" + salt, h, "\xbc"},
			{"the byte ahead of the salt", ahead + "\x81" + salt, h, "\xbc"},
			{"no byte ahead of the salt", ahead + nought + salt, h, "\xbc"},
			{"a byte of those ahead", ahead[1:] + "\x01\x01" + salt, h, "\xbc"},
			{"a byte of those ahead", ahead[2:] + "\x80\x00\x01" + salt, h, "\xbc"},
			{"the first byte", "\x01" + ahead[1:] + "\x01" + salt, h, "\xbc"},
			{"another salt", ahead + "\x01" + noise(2, 32), h, "\xbc"},
			{"a salt of 33 bytes", ahead[1:] + "\x01" + noise(3, 33), saltedSum("abc", noise(3, 33)), "\xbc"},
			{"a salt of 31 bytes", ahead + nought + "\x01" + noise(4, 31), saltedSum("abc", noise(4, 31)), "\xbc"},
			{"no salt", ahead + strings.Repeat(nought, 32) + "\x01", saltedSum("abc", ""), "\xbc"},
			{"the longest salt", "\x01" + noise(5, 32+noughts), saltedSum("abc", noise(5, 32+noughts)), "\xbc"},
			{"a sum without noughts", ahead + "\x01" + salt, sumOf(sumOf("abc") + salt), "\xbc"},
			{"a sum of seven noughts", ahead + "\x01" + salt, sumOf(eight[1:] + sumOf("abc") + salt), "\xbc"},
			{"a sum of nine noughts", ahead + "\x01" + salt, sumOf(nought + eight + sumOf("abc") + salt), "\xbc"},
			{"a sum of the text", ahead + "\x01" + salt, sumOf(eight + "abc" + salt), "\xbc"},
			{"the salt ahead of the sum", ahead + "\x01" + salt, sumOf(eight + salt + sumOf("abc")), "\xbc"},
			{"a sum of no salt", ahead + "\x01" + salt, sumOf(eight + sumOf("abc")), "\xbc"},
		} {
			wantFits(t, x.what, "abc", masked(x.ahead, x.h, x.end, b), b, false)
		}
		bare := ahead + "\x01" + salt
		wantFits(t, "without a mask", "abc", bare+h+"\xbc", b, false)
	}
}

func TestFitsOfNoSize(t *testing.T) {
	for b := -9; b <= 520; b++ {
		n := max(0, (b+7)/8)
		for _, block := range []string{strings.Repeat(nought, n), strings.Repeat(full, n), strings.Repeat("\xbc", n), noise(n, n), ""} {
			wantFits(t, "too short", "", block, b, false)
		}
	}
	// 65 bytes have room for a salt of 31 alone.
	short := masked("\x01"+noise(1, 31), saltedSum("abc", noise(1, 31)), "\xbc", 520)
	wantFits(t, "a salt of 31 bytes", "abc", short, 520, false)
	right := pssOf("abc", noise(2, 32), 528)
	for _, b := range append(farOut(), 0, 520, 529, 4095, 4096, 4097) {
		wantFits(t, "other digits", "abc", right, b, false)
	}
	wantFits(t, "the longest", "abc", pssOf("abc", noise(2, 32), 4096), 4096, true)
	for b := 4097; b <= 4110; b++ {
		wantFits(t, "too long", "abc", pssOf("abc", noise(2, 32), b), b, false)
	}
	long := strings.Repeat(full, 1<<20) + "\xbc"
	for _, b := range append(farOut(), 8*len(long), 4096, 528) {
		wantFits(t, "far too long", "abc", long, b, false)
	}
}
