package rsa_test

// What the tests lean on: keys and signatures that are made by the library's numbers and sums alone.

import (
	stdrsa "crypto/rsa"
	"crypto/sha256"
	"encoding/binary"
	"math/big"
	"strings"
	"testing"

	"ostiary/api"
)

const (
	nought = "\x00"
	full   = "\xff"
	often  = "\x01\x00\x01" // the exponent that most keys have
)

// noise is the same bytes on every run for each seed, without a rule that the program could share.
func noise(seed, n int) string {
	b := make([]byte, n)
	x := uint32(2463534242) + uint32(seed)*2654435761
	if x == 0 {
		x = 1
	}
	for i := range 16 + n {
		x ^= x << 13
		x ^= x >> 17
		x ^= x << 5
		if i >= 16 {
			b[i-16] = byte(x >> 11)
		}
	}
	return string(b)
}

func number(s string) *big.Int { return new(big.Int).SetBytes([]byte(s)) }

func formOf(x *big.Int) string { return string(x.Bytes()) }

func sumOf(s string) string {
	h := sha256.Sum256([]byte(s))
	return string(h[:])
}

// signer is a key with what undoes its exponent.
type signer struct {
	key        api.RsaKey
	n, e, d    *big.Int
	p, q       *big.Int
	size, bits int
}

// newSigner's modulus has just so many binary digits: the upper two of both primes are 1.
func newSigner(t *testing.T, bits int, e string) *signer {
	t.Helper()
	k := &signer{e: number(e), bits: bits, size: (bits + 7) / 8}
	k.p = primeOf(bits/2, 2*bits, k.e)
	k.q = primeOf(bits-bits/2, 2*bits+1, k.e)
	k.n = new(big.Int).Mul(k.p, k.q)
	one := big.NewInt(1)
	phi := new(big.Int).Mul(new(big.Int).Sub(k.p, one), new(big.Int).Sub(k.q, one))
	k.d = new(big.Int).ModInverse(k.e, phi)
	k.key = api.RsaKey{N: formOf(k.n), E: e}
	if k.n.BitLen() != bits || k.p.Cmp(k.q) == 0 || k.d == nil {
		t.Fatalf("no key of %d digits, exponent %x", bits, e)
	}
	return k
}

// primeOf is the next prime behind some noise whose less one shares nothing with e.
func primeOf(bits, seed int, e *big.Int) *big.Int {
	p := number(noise(seed, (bits+7)/8))
	p.Mod(p, new(big.Int).Lsh(big.NewInt(1), uint(bits)))
	p.SetBit(p, bits-1, 1)
	p.SetBit(p, bits-2, 1)
	p.SetBit(p, 0, 1)
	for ; ; p.Add(p, big.NewInt(2)) {
		less := new(big.Int).Sub(p, big.NewInt(1))
		if new(big.Int).GCD(nil, nil, less, e).IsInt64() && new(big.Int).GCD(nil, nil, less, e).Int64() == 1 && p.ProbablyPrime(8) {
			return p
		}
	}
}

// raise is the bytes as a number to the power D, as many bytes as the key has.
func (k *signer) raise(b string) string {
	x := new(big.Int).Exp(number(b), k.d, k.n)
	return string(x.FillBytes(make([]byte, k.size)))
}

func (k *signer) signRs(s string) string { return k.raise(blockOf(s, k.size)) }

func (k *signer) signPs(s, salt string) string { return k.raise(pssOf(s, salt, k.bits-1)) }

func (k *signer) std() *stdrsa.PublicKey {
	return &stdrsa.PublicKey{N: k.n, E: int(k.e.Int64())}
}

// blockOf is the block of s in n bytes.
func blockOf(s string, n int) string {
	const der = "\x30\x31\x30\x0d\x06\x09\x60\x86\x48\x01\x65\x03\x04\x02\x01\x05\x00\x04\x20"
	end := nought + der + sumOf(s)
	return "\x00\x01" + strings.Repeat(full, n-2-len(end)) + end
}

// maskOf is the first n bytes of a seed's mask.
func maskOf(seed string, n int) string {
	var b strings.Builder
	for i := uint32(0); b.Len() < n; i++ {
		b.WriteString(sumOf(seed + string(binary.BigEndian.AppendUint32(nil, i))))
	}
	return b.String()[:n]
}

// saltedSum is what a PSS block's sum must be.
func saltedSum(s, salt string) string {
	return sumOf(strings.Repeat(nought, 8) + sumOf(s) + salt)
}

// pssOf is a block that fits s, with b binary digits.
func pssOf(s, salt string, b int) string {
	noughts := (b+7)/8 - 66
	return masked(strings.Repeat(nought, noughts)+"\x01"+salt, saltedSum(s, salt), "\xbc", b)
}

// masked lays a PSS block of its parts, whatever they are.
func masked(ahead, h, end string, b int) string {
	x := []byte(ahead)
	for i, m := range []byte(maskOf(h, len(x))) {
		x[i] ^= m
	}
	x[0] &= byte(0xff >> (8*len(ahead+h+end) - b))
	return string(x) + h + end
}

// flipped is s with another binary digit, the highest one of the first byte at 0.
func flipped(s string, at int) string {
	b := []byte(s)
	b[at/8] ^= 128 >> (at % 8)
	return string(b)
}

// salts are of 32 bytes.
func salts() []string {
	return []string{strings.Repeat(nought, 32), strings.Repeat(full, 32), "\x01" + strings.Repeat(nought, 31), strings.Repeat(nought, 31) + "\x01", noise(1, 32), noise(2, 32), noise(3, 32)}
}

// said are texts to be signed, of lengths about the sums' blocks.
func said() []string {
	return []string{"", "a", "abc", nought, noise(4, 55), noise(5, 56), noise(6, 64), noise(7, 1000)}
}
