package hash

// word is a number by which a sum is reckoned.
type word interface{ uint32 | uint64 }

// next is the state behind a block. Numbers of 32 bits stand in the lower halves of the states.
func next[W word](old [8]uint64, block []byte, p plan) [8]uint64 {
	w := spread[W](block, p)
	roots := cubeRoots()
	bits := uint(8 * p.bytes)
	a, b, c, d := W(old[0]), W(old[1]), W(old[2]), W(old[3])
	e, f, g, h := W(old[4]), W(old[5]), W(old[6]), W(old[7])
	for i := range p.rounds {
		k := W(roots[i] >> (64 - bits))
		t := h + turns(e, p.c, bits) + (e&f ^ ^e&g) + k + w[i]
		u := turns(a, p.d, bits) + (a&b ^ a&c ^ b&c)
		h, g, f, e, d, c, b, a = g, f, e, d+t, c, b, a, t+u
	}
	for i, x := range [8]W{a, b, c, d, e, f, g, h} {
		old[i] = uint64(W(old[i]) + x)
	}
	return old
}

// spread is a block's numbers, and those that follow from them.
func spread[W word](block []byte, p plan) [80]W {
	var w [80]W
	for i := range 16 {
		for _, c := range block[i*p.bytes : (i+1)*p.bytes] {
			w[i] = w[i]<<8 | W(c)
		}
	}
	bits := uint(8 * p.bytes)
	for i := 16; i < p.rounds; i++ {
		x, y := w[i-15], w[i-2]
		s0 := turned(x, p.a[0], bits) ^ turned(x, p.a[1], bits) ^ x>>p.a[2]
		s1 := turned(y, p.b[0], bits) ^ turned(y, p.b[1], bits) ^ y>>p.b[2]
		w[i] = w[i-16] + s0 + w[i-7] + s1
	}
	return w
}

func turns[W word](x W, by [3]uint, bits uint) W {
	return turned(x, by[0], bits) ^ turned(x, by[1], bits) ^ turned(x, by[2], bits)
}

// turned is x, of so many bits, turned right.
func turned[W word](x W, by, bits uint) W { return x>>by | x<<(bits-by) }
