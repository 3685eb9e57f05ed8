package rsa_test

// P4.1: which keys may be, and what is left of a signature to the power E.

import (
	"math/big"
	"strings"
	"testing"

	"ostiary/api"
	"ostiary/rsa"
)

// odd is a number of just so many binary digits, odd.
func odd(bits int) string {
	x := number(noise(bits, (bits+7)/8+1))
	x.Mod(x, new(big.Int).Lsh(big.NewInt(1), uint(bits)))
	x.SetBit(x, bits-1, 1)
	return formOf(x.SetBit(x, 0, 1))
}

// even is that number less one.
func even(bits int) string {
	x := number(odd(bits))
	return formOf(x.SetBit(x, 0, 0))
}

func wantCheck(t *testing.T, n, e string, wanted api.Errno) {
	t.Helper()
	if f := rsa.Check(api.RsaKey{N: n, E: e}); f != wanted {
		t.Errorf("Check of N of %d bytes, %.20x.., E %.20x: %d, not %d", len(n), n, e, f, wanted)
	}
}

func TestCheckExamples(t *testing.T) {
	wantCheck(t, "\x0f", "\x03", api.ErrRsaKey)
	wantCheck(t, even(512), "\x03", api.ErrRsaKey)
	wantCheck(t, odd(512), "\x01", api.ErrRsaKey)
	wantCheck(t, odd(512), "\x03", api.OK)
}

func TestCheckModulus(t *testing.T) {
	for bits := 500; bits <= 2060; bits++ {
		wanted := api.OK
		if bits < 512 || bits > 2048 {
			wanted = api.ErrRsaKey
		}
		wantCheck(t, odd(bits), often, wanted)
		wantCheck(t, even(bits), often, api.ErrRsaKey)
		wantCheck(t, nought+odd(bits), often, api.ErrRsaKey)
	}
	for _, n := range []string{
		"\x80" + strings.Repeat(nought, 62) + "\x01", strings.Repeat(full, 64),
		"\x80" + strings.Repeat(nought, 254) + "\x01", strings.Repeat(full, 256),
	} {
		wantCheck(t, n, often, api.OK)
	}
	for _, n := range []string{
		"", nought, "\x01", "\x03", "\x7f" + strings.Repeat(full, 63), "\x01" + strings.Repeat(nought, 255) + "\x01",
		strings.Repeat(nought, 64), strings.Repeat(nought, 256), strings.Repeat(nought, 200) + odd(512), nought + odd(2040), strings.Repeat(full, 257), odd(4096), odd(4104),
		strings.Repeat(full, 1<<20), strings.Repeat(nought, 1<<20), odd(512) + nought,
	} {
		wantCheck(t, n, often, api.ErrRsaKey)
	}
}

func TestCheckExponent(t *testing.T) {
	for _, bits := range []int{512, 777, 2048} {
		n := odd(bits)
		for _, e := range []string{"\x03", "\x05", "\x07", "\x11", "\xff", "\x01\x01", often, "\x7f\xff\xff\xff", "\x80\x00\x00\x01", full + full + full + full} {
			wantCheck(t, n, e, api.OK)
			wantCheck(t, n, nought+e, api.ErrRsaKey)
		}
		for _, e := range []string{
			"", nought, "\x01", "\x02", "\x04", "\xfe", "\x00\x01", "\x01\x00", "\x01\x00\x00", "\xff\xff\xff\xfe",
			"\x01\x00\x00\x00\x01", "\x01\xff\xff\xff\xff", "\x01\x00\x00\x00\x00", n, strings.Repeat(full, 512), strings.Repeat(full, 513), strings.Repeat(full, 1<<20), strings.Repeat(nought, 1<<20) + "\x03",
		} {
			wantCheck(t, n, e, api.ErrRsaKey)
		}
	}
}

func TestCheckEachByteOfExponent(t *testing.T) {
	for c := range 256 {
		wanted := api.ErrRsaKey
		if c%2 == 1 && c >= 3 {
			wanted = api.OK
		}
		wantCheck(t, odd(512), string([]byte{byte(c)}), wanted)
	}
}

func wantOpen(t *testing.T, k api.RsaKey, sig string) {
	t.Helper()
	power := new(big.Int).Exp(number(sig), number(k.E), number(k.N))
	wanted := string(power.FillBytes(make([]byte, len(k.N))))
	if s, f := rsa.Open(k, sig); s != wanted || f != api.OK {
		t.Errorf("Open of %x: %x, %d, not %x", sig, s, f, wanted)
	}
}

func wantClosed(t *testing.T, k api.RsaKey, sig string, wanted api.Errno) {
	t.Helper()
	if s, f := rsa.Open(k, sig); s != "" || f != wanted {
		t.Errorf("Open of %d bytes: %x, %d, not %d", len(sig), s, f, wanted)
	}
}

// moved is a number so far above s, as n bytes.
func moved(s string, by int64, n int) string {
	x := new(big.Int).Add(number(s), big.NewInt(by))
	return string(x.FillBytes(make([]byte, n)))
}

func TestOpen(t *testing.T) {
	for _, bits := range []int{512, 513, 519, 520, 521, 1023, 1024, 2041, 2047, 2048} {
		n := odd(bits)
		for _, e := range []string{"\x03", "\x11", often, "\x80\x00\x00\x01", full + full + full + full} {
			k := api.RsaKey{N: n, E: e}
			ahead := strings.Repeat(nought, len(n)-1)
			for _, sig := range []string{
				ahead + nought, ahead + "\x01", ahead + "\x02", moved(n, -1, len(n)), moved(n, -2, len(n)),
				nought + noise(bits, len(n)-1), nought + noise(bits+1, len(n)-1), nought + strings.Repeat(full, len(n)-1),
			} {
				wantOpen(t, k, sig)
			}
		}
	}
}

func TestOpenOfAnotherSize(t *testing.T) {
	for _, bits := range []int{512, 513, 1024, 2041, 2048} {
		k := api.RsaKey{N: odd(bits), E: often}
		n := len(k.N)
		for _, size := range []int{0, 1, n - 2, n - 1, n + 1, n + 2, 2 * n, 512, 513, 1 << 20} {
			wantClosed(t, k, strings.Repeat(nought, size), api.ErrRsaSize)
			wantClosed(t, k, strings.Repeat(full, size), api.ErrRsaSize)
			wantClosed(t, k, noise(size, size), api.ErrRsaSize)
		}
		for _, sig := range []string{
			k.N, moved(k.N, 2, n), strings.Repeat(full, n), nought + k.N, nought + noise(1, n), noise(1, n-1),
		} {
			wantClosed(t, k, sig, api.ErrRsaSize)
		}
	}
}

func TestOpenOfNoKey(t *testing.T) {
	for _, k := range []api.RsaKey{{}, {N: "\x0f", E: "\x03"}, {N: odd(511), E: often}, {N: odd(2049), E: often}, {N: even(512), E: often}, {N: odd(512), E: "\x01"}, {N: odd(512), E: "\x04"}, {N: odd(512)}, {E: often}, {N: nought + odd(512), E: often}, {N: odd(512), E: nought + often}} {
		for _, sig := range []string{"", nought, "\x02", strings.Repeat(nought, len(k.N)), strings.Repeat(full, len(k.N)), strings.Repeat(full, 64), k.N} {
			wantClosed(t, k, sig, api.ErrRsaKey)
		}
	}
}
