package der_test

// P6.5: what follows; and what the rules of all layers ask for memory.

import (
	"strings"
	"testing"

	"ostiary/api"
	"ostiary/der"
)

// parsed are values, some of them long or deep, each with its form.
func parsed(t *testing.T) map[string]api.Der {
	t.Helper()
	s := source(5)
	all := map[string]api.Der{}
	for len(all) < 1500 {
		d := s.value(s.below(8), 0)
		form, e := der.Print(d)
		if e == api.ErrDerLong || e == api.ErrDerForm {
			continue
		}
		if e != api.OK {
			t.Fatalf("Print of %v: %d", d, e)
		}
		all[form] = d
	}
	return all
}

func TestFormsAndValues(t *testing.T) {
	for form, d := range parsed(t) {
		x, e := der.Parse(form)
		if e != api.OK || !same(x, d) {
			t.Errorf("Parse(%x): %v, %d", some(form), x, e)
		}
		if s, e := der.Print(x); s != form || e != api.OK {
			t.Errorf("Print of Parse(%x): %x, %d", some(form), some(s), e)
		}
	}
}

// What Parse takes, Print writes again: no other bytes are read as the same value.
func TestParsedIsPrinted(t *testing.T) {
	s := source(9)
	taken := 0
	for form := range parsed(t) {
		for range 20 {
			b := []byte(form)
			b[s.below(len(b))] = byte(s.below(256))
			d, e := der.Parse(string(b))
			if e != api.OK {
				continue
			}
			taken++
			if x, e := der.Print(d); x != string(b) || e != api.OK {
				t.Errorf("Print of Parse(%x): %x, %d", some(string(b)), some(x), e)
			}
		}
	}
	if taken < 1000 {
		t.Errorf("%d texts alone were taken", taken)
	}
}

func TestBeginningsAndMore(t *testing.T) {
	for form := range parsed(t) {
		for n := range len(form) {
			if n < 100 || n%61 == 0 || n > len(form)-3 {
				wantNone(t, form[:n], api.ErrDerEnd)
			}
		}
		for _, more := range []string{"\x00", "\x05\x00", form, "\xff\xff\xff"} {
			if len(form+more) <= 16384 {
				wantNone(t, form+more, api.ErrDerMore)
			}
		}
	}
}

// What is answered is new memory: to change one answer, or to write into its spare room, changes no other, nor another list of the same.
func TestAnswersShareNothing(t *testing.T) {
	form := hexed("30 12 30 06 05 00 05 00 05 00 30 00 31 06 05 00 05 00 05 00")
	first, _ := der.Parse(form)
	second, _ := der.Parse(form)
	for i := range first.List {
		l := first.List[i].List
		for k := range 20 {
			l = append(l, octets(k))
		}
		full := first.List[i].List[:cap(first.List[i].List)]
		for k := len(first.List[i].List); k < cap(full); k++ {
			full[k] = octets(9)
		}
	}
	spare := first.List[:cap(first.List)]
	for k := len(first.List); k < cap(spare); k++ {
		spare[k] = octets(9)
	}
	if s, e := der.Print(first); s != form || e != api.OK {
		t.Errorf("lists of one answer share room: %x, %d", s, e)
	}
	first.List[0].List[0] = prim(api.DerInt, "a")
	first.List[1] = null()
	if s, e := der.Print(second); s != form || e != api.OK {
		t.Errorf("two answers share room: %x, %d", s, e)
	}
}

// What is handed in is not changed, its spare room neither, and the same is told of it again.
func TestArgumentsStay(t *testing.T) {
	room := []api.Der{prim(api.DerInt, "a"), null(), octets(7), octets(8)}
	d := seq(set(room[:2]...), prim(api.DerUtf8, "é"))
	d.List[0].List = room[:2]
	before, e := der.Print(d)
	if e != api.OK {
		t.Fatal(e)
	}
	for range 3 {
		if s, e := der.Print(d); s != before || e != api.OK || der.Check(d) != api.OK {
			t.Errorf("Print: %x, %d, not %x", s, e, before)
		}
	}
	if !same(room[0], prim(api.DerInt, "a")) || !same(room[1], null()) || !same(room[2], octets(7)) || !same(room[3], octets(8)) {
		t.Errorf("the room of a list was changed: %v", room)
	}
	unsorted := set(null(), prim(api.DerInt, "a"))
	wantBad(t, "a set", unsorted, api.ErrDerForm)
	if !same(unsorted, set(null(), prim(api.DerInt, "a"))) {
		t.Error("a list was sorted")
	}
}

// At long arguments, too, each call ends.
func TestLongArguments(t *testing.T) {
	long := strings.Repeat("\x81", 1<<22)
	for tag := -1; tag < 33; tag++ {
		for class := range 4 {
			for _, cons := range []bool{false, true} {
				d := api.Der{Class: class, Tag: tag, Cons: cons, Bytes: long}
				if e := der.Check(d); e == api.OK {
					t.Errorf("%d, %d: %d", class, tag, e)
				}
			}
		}
	}
	wantNone(t, long, api.ErrDerLong)
	wantNoOid(t, long)
	if _, e := der.OfNat(long); e != api.ErrDerLong {
		t.Errorf("OfNat: %d", e)
	}
}
