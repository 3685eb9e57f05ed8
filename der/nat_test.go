package der_test

// P6.3 and P6.4 of integers and of bits; ErrDerKind of all.

import (
	"math/big"
	"strings"
	"testing"

	"ostiary/api"
	"ostiary/der"
)

func wantNat(t *testing.T, bytes, want string) {
	t.Helper()
	if s, e := der.Nat(prim(api.DerInt, bytes)); s != want || e != api.OK {
		t.Errorf("Nat of %x: %x, %d, not %x", some(bytes), some(s), e, some(want))
	}
}

func wantOfNat(t *testing.T, a, bytes string) {
	t.Helper()
	d, e := der.OfNat(a)
	if !same(d, prim(api.DerInt, bytes)) || e != api.OK {
		t.Errorf("OfNat(%x): %v, %d, not %x", some(a), d, e, some(bytes))
	}
	wantNat(t, bytes, strings.TrimLeft(a, "\x00"))
}

func TestNat(t *testing.T) {
	wantNat(t, "\x00", "")
	wantNat(t, "\x05", "\x05")
	wantNat(t, "\x7f", "\x7f")
	wantNat(t, "\x00\x80", "\x80")
	wantNat(t, "\x00\xff", "\xff")
	wantNat(t, "\x01\x00", "\x01\x00")
	wantNat(t, "\x00\x80\x00\x00", "\x80\x00\x00")
	for _, n := range []int{512, 513, 1000, 16380} {
		wantNat(t, strings.Repeat("a", n), strings.Repeat("a", n))
	}
	for _, bytes := range []string{"\xff", "\x80", "\xff\x7f", "\x80\x00", "\x81", "\xfe\xff\xff"} {
		if s, e := der.Nat(prim(api.DerInt, bytes)); s != "" || e != api.ErrDerForm {
			t.Errorf("Nat of %x: %x, %d", bytes, s, e)
		}
	}
	for _, bytes := range []string{"", "\x00\x05", "\x00\x00", "\xff\xff", strings.Repeat("a", 16381)} {
		if s, e := der.Nat(prim(api.DerInt, bytes)); s != "" || e != api.ErrDerKind {
			t.Errorf("Nat of %x: %x, %d", some(bytes), s, e)
		}
	}
}

func TestOfNat(t *testing.T) {
	wantOfNat(t, "", "\x00")
	wantOfNat(t, "\x00", "\x00")
	wantOfNat(t, "\x00\x80", "\x00\x80")
	wantOfNat(t, "\x80", "\x00\x80")
	wantOfNat(t, "\x7f\xff", "\x7f\xff")
	wantOfNat(t, "\x00\x00\x7f", "\x7f")
	wantOfNat(t, strings.Repeat("a", 512), strings.Repeat("a", 512))
	wantOfNat(t, strings.Repeat("\xff", 512), "\x00"+strings.Repeat("\xff", 512))
	wantOfNat(t, strings.Repeat("\x00", 600)+strings.Repeat("a", 512), strings.Repeat("a", 512))
	wantOfNat(t, strings.Repeat("\x00", 20000), "\x00")
	for _, a := range []string{strings.Repeat("a", 513), "\x01" + strings.Repeat("\x00", 512), "\x00" + strings.Repeat("\xff", 513), strings.Repeat("b", 20000)} {
		if d, e := der.OfNat(a); !isZero(d) || e != api.ErrDerLong {
			t.Errorf("OfNat of %d bytes: %v, %d", len(a), d, e)
		}
	}
}

// Numbers of all lengths: what OfNat makes may be, and Nat takes it back.
func TestNatOfOfNat(t *testing.T) {
	for n := range 513 {
		for _, first := range []string{"\x00", "\x01", "\x7f", "\x80", "\xff"} {
			a := (first + strings.Repeat("\x00\xff", 256))[:n]
			d, e := der.OfNat(a)
			if e != api.OK || der.Check(d) != api.OK {
				t.Errorf("OfNat of %d bytes: %d, %d", n, e, der.Check(d))
			}
			if s, e := der.Nat(d); s != string(new(big.Int).SetBytes([]byte(a)).Bytes()) || e != api.OK {
				t.Errorf("Nat of OfNat of %d bytes: %x, %d", n, some(s), e)
			}
		}
	}
}

func TestBits(t *testing.T) {
	for _, x := range []struct {
		bytes, want string
		over        int
	}{{"\x00", "", 0}, {"\x00\xff", "\xff", 0}, {"\x07\x80", "\x80", 7}, {"\x01\x00", "\x00", 1}, {"\x05\xff\x00\x20", "\xff\x00\x20", 5}, {"\x00\x00\x00", "\x00\x00", 0}, {"\x03" + strings.Repeat("\xf8", 16379), strings.Repeat("\xf8", 16379), 3}} {
		if s, n, e := der.Bits(prim(api.DerBits, x.bytes)); s != x.want || n != x.over || e != api.OK {
			t.Errorf("Bits of %x: %x, %d, %d", some(x.bytes), some(s), n, e)
		}
	}
	for _, bytes := range []string{"", "\x01", "\x07", "\x08\x00", "\x01\x01", "\x07\x40", "\x00" + strings.Repeat("a", 16380)} {
		if s, n, e := der.Bits(prim(api.DerBits, bytes)); s != "" || n != 0 || e != api.ErrDerKind {
			t.Errorf("Bits of %x: %x, %d, %d", some(bytes), some(s), n, e)
		}
	}
}

// Each call takes values of its tags and of the class 0 alone, that may be.
func TestKinds(t *testing.T) {
	calls := []struct {
		tags []int
		call func(d api.Der) (bool, api.Errno)
	}{
		{[]int{api.DerInt}, func(d api.Der) (bool, api.Errno) { s, e := der.Nat(d); return s == "", e }},
		{[]int{api.DerOid}, func(d api.Der) (bool, api.Errno) { s, e := der.Oid(d); return s == "", e }},
		{[]int{api.DerUtc, api.DerTime}, func(d api.Der) (bool, api.Errno) { n, e := der.Time(d); return n == 0, e }},
		{[]int{api.DerBits}, func(d api.Der) (bool, api.Errno) { s, n, e := der.Bits(d); return s == "" && n == 0, e }},
	}
	right := map[int]string{1: "\xff", 2: "\x01", 3: "\x00\x01", 4: "\x01", 5: "", 6: "\x01", 12: "a", 19: "A", 22: "a", 23: "991231235959Z", 24: "20491231235959Z"}
	for i, x := range calls {
		for class := -1; class < 5; class++ {
			for tag := -1; tag < 40; tag++ {
				d := api.Der{Class: class, Tag: tag, Bytes: right[tag], Cons: tag == 16 || tag == 17}
				takes := class == 0 && (tag == x.tags[0] || tag == x.tags[len(x.tags)-1])
				none, e := x.call(d)
				if takes && (none || e != api.OK) || !takes && (!none || e != api.ErrDerKind) {
					t.Errorf("call %d, class %d, tag %d: %v, %d", i, class, tag, none, e)
				}
			}
		}
		for _, tag := range x.tags {
			for _, d := range []api.Der{{Tag: tag, Bytes: right[tag], Cons: true}, {Tag: tag, Cons: true}, {Tag: tag, Bytes: right[tag], List: []api.Der{null()}}, {Tag: tag}, {Tag: tag, Bytes: right[tag] + "\x80"}} {
				// Of an integer the bytes 01 80 may be.
				if none, e := x.call(d); (!none || e != api.ErrDerKind) && der.Check(d) != api.OK {
					t.Errorf("call %d, %v: %v, %d", i, d, none, e)
				}
			}
		}
	}
}
