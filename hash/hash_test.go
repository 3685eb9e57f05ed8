package hash_test

// P2.2 and P2.3 of what is written in pieces.

import (
	"crypto/sha256"
	"crypto/sha512"
	stdhash "hash"
	"testing"

	"ostiary/api"
	"ostiary/hash"
)

func opened(t *testing.T, kind int) *hash.Hash {
	t.Helper()
	h, e := hash.New(kind)
	if h == nil || e != api.OK {
		t.Fatalf("New(%d): %v, %d", kind, h, e)
	}
	return h
}

// wantTold: h tells that s was written, and tells it again.
func wantTold(t *testing.T, h *hash.Hash, kind int, s string) {
	t.Helper()
	want := sumWanted(kind, s)
	for range 2 {
		if x := h.Sum(); x != want {
			t.Errorf("Sum of %d bytes by %d: %x, not %x", len(s), kind, x, want)
		}
		if n := h.Size(); n != len(s) {
			t.Errorf("Size %d, not %d", n, len(s))
		}
	}
}

func TestHashExample(t *testing.T) {
	h := opened(t, api.Sha384)
	h.Write("a")
	h.Write("bc")
	for range 2 {
		wantText(t, "Sum", h.Sum(), "cb00753f45a35e8b b5a03d699ac65007 272c32ab0eded163 1a8b605a43ff5bed 8086072ba1e7cc23 58baeca134c825a7")
		if h.Size() != 3 {
			t.Errorf("Size %d", h.Size())
		}
	}
}

func TestHashOfNothing(t *testing.T) {
	for kind := range api.Hashes {
		h := opened(t, kind)
		wantTold(t, h, kind, "")
		h.Write("")
		wantTold(t, h, kind, "")
		h.Clone().Write("a")
		wantTold(t, h, kind, "")
		wantTold(t, h.Clone(), kind, "")
	}
}

func TestHashOfOtherKinds(t *testing.T) {
	for _, kind := range others() {
		if h, e := hash.New(kind); h != nil || e != api.ErrHashKind {
			t.Errorf("New(%d): %v, %d", kind, h, e)
		}
	}
}

// Every cut into two, about two blocks, and what is told between.
func TestHashCutAtEachPlace(t *testing.T) {
	all := noise(290)
	for kind := range api.Hashes {
		for _, n := range []int{1, 63, 64, 65, 127, 128, 129, 256, 290} {
			for cut := range n + 1 {
				h := opened(t, kind)
				h.Write(all[:cut])
				h.Write(all[cut:n])
				wantTold(t, h, kind, all[:n])
			}
		}
	}
}

// Pieces of each size, with the sum asked behind each: it changes nothing.
func TestHashInPieces(t *testing.T) {
	all := noise(1000)
	for kind := range api.Hashes {
		for size := 1; size <= 260; size++ {
			h := opened(t, kind)
			for at := 0; at < len(all); at += size {
				end := min(at+size, len(all))
				h.Write(all[at:end])
				h.Write("")
				if size%16 < 2 {
					wantTold(t, h, kind, all[:end])
				}
			}
			wantTold(t, h, kind, all)
		}
	}
}

// A clone goes its own way, as its original does, wherever in a block they stood.
func TestHashClones(t *testing.T) {
	all, other := noise(400), noise(500)[100:]
	for kind := range api.Hashes {
		for cut := range 260 {
			h := opened(t, kind)
			h.Write(all[:cut])
			c := h.Clone()
			wantTold(t, c, kind, all[:cut])
			c.Write(other[:cut+3])
			wantTold(t, h, kind, all[:cut])
			d := c.Clone()
			h.Write(all[cut:])
			wantTold(t, h, kind, all)
			wantTold(t, c, kind, all[:cut]+other[:cut+3])
			wantTold(t, d, kind, all[:cut]+other[:cut+3])
			d.Write("x")
			wantTold(t, d, kind, all[:cut]+other[:cut+3]+"x")
			wantTold(t, c, kind, all[:cut]+other[:cut+3])
		}
	}
}

// Two hashes that were made one behind the other share nothing.
func TestHashesStandAlone(t *testing.T) {
	for kind := range api.Hashes {
		h, g := opened(t, kind), opened(t, api.Hashes-1-kind)
		for i := range 200 {
			h.Write(noise(i))
			g.Write("b")
		}
		var all, bs string
		for i := range 200 {
			all += noise(i)
			bs += "b"
		}
		wantTold(t, h, kind, all)
		wantTold(t, g, api.Hashes-1-kind, bs)
	}
}

// So many bytes that how many bits they have is beyond 32 bits.
func TestHashOfVeryManyBytes(t *testing.T) {
	if testing.Short() {
		t.Skip("some seconds")
	}
	piece := noise(1 << 20)
	for kind := range api.Hashes {
		t.Run([]string{"Sha256", "Sha384"}[kind], func(t *testing.T) {
			t.Parallel()
			h := opened(t, kind)
			var want stdhash.Hash = sha256.New()
			if kind == api.Sha384 {
				want = sha512.New384()
			}
			for range 512 {
				h.Write(piece)
				want.Write([]byte(piece))
			}
			h.Write("abc")
			want.Write([]byte("abc"))
			if x := h.Sum(); x != string(want.Sum(nil)) || h.Size() != 1<<29+3 {
				t.Errorf("%x of %d bytes", x, h.Size())
			}
		})
	}
}
