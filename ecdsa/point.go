package ecdsa

import "ostiary/api"

const (
	baseX = "\x6b\x17\xd1\xf2\xe1\x2c\x42\x47\xf8\xbc\xe6\xe5\x63\xa4\x40\xf2\x77\x03\x7d\x81\x2d\xeb\x33\xa0\xf4\xa1\x39\x45\xd8\x98\xc2\x96"
	baseY = "\x4f\xe3\x42\xe2\xfe\x1a\x7f\x9b\x8e\xe7\xeb\x4a\x7c\x0f\x9e\x16\x2b\xce\x33\x57\x6b\x31\x5e\xce\xcb\xb6\x40\x68\x37\xbf\x51\xf5"
	// baseB is the number B of the curve.
	baseB = "\x5a\xc6\x35\xd8\xaa\x3a\x93\xe7\xb3\xeb\xbd\x55\x76\x98\x86\xbc\x65\x1d\x06\xb0\xcc\x53\xb0\xf6\x3b\xce\x3c\x3e\x27\xd2\x60\x4b"
)

// point is one under way: its X is x / (z z), its Y is y / (z z z), and z is 0, if it is far out. So no sum needs a division.
type point struct{ x, y, z element }

// basePoint is G.
func basePoint() point { return near(read(baseX), read(baseY)) }

// near is the point of that X and Y.
func near(x, y number) point {
	return point{x: elementOf(x), y: elementOf(y), z: elementOf(number{1})}
}

// pointOf: false, if k is no point.
func pointOf(k api.EcKey) (point, bool) {
	if k == (api.EcKey{}) {
		return point{}, true
	}
	return keyPoint(k)
}

// keyPoint: false, if k may not be a key.
func keyPoint(k api.EcKey) (point, bool) {
	if len(k.X) != size || len(k.Y) != size {
		return point{}, false
	}
	x, y := read(k.X), read(k.Y)
	if !x.below(prime) || !y.below(prime) {
		return point{}, false
	}
	p := near(x, y)
	if p.y.squared() != wantedSquare(p.x) {
		return point{}, false
	}
	return p, true
}

// wantedSquare is what Y times Y must be.
func wantedSquare(x element) element {
	triple := x.doubled().plus(x)
	return x.squared().times(x).minus(triple).plus(elementOf(read(baseB)))
}

// key is the point as it goes out.
func (p point) key() api.EcKey {
	if p.far() {
		return api.EcKey{}
	}
	by := p.z.inverse()
	square := by.squared()
	x, y := p.x.times(square), p.y.times(square.times(by))
	return api.EcKey{X: x.number().form(), Y: y.number().form()}
}

func (p point) far() bool { return p.z == (element{}) }

func (p point) plus(q point) point {
	if p.far() {
		return q
	}
	if q.far() {
		return p
	}
	// Both are brought to the z's that they share; the slope is high / wide.
	one, other := p.z.squared(), q.z.squared()
	x, y := p.x.times(other), p.y.times(other.times(q.z))
	wide := q.x.times(one).minus(x)
	high := q.y.times(one.times(p.z)).minus(y)
	if wide == (element{}) {
		return p.beside(high)
	}
	square := wide.squared()
	cube := square.times(wide)
	x = x.times(square)
	var sum point
	sum.x = high.squared().minus(cube).minus(x.doubled())
	sum.y = high.times(x.minus(sum.x)).minus(y.times(cube))
	sum.z = wide.times(p.z.times(q.z))
	return sum
}

// beside is the sum of p and a point of the same X, whose Y is so much higher: it is the same point, or the opposite.
func (p point) beside(high element) point {
	if high == (element{}) {
		return p.doubled()
	}
	return point{}
}

// doubled is p and p. The slope is (3 X X - 3) / (2 Y), and 3 X X - 3 is three times (X - 1) (X + 1). No point has a Y of 0: it would be its own opposite, but N is odd.
func (p point) doubled() point {
	one := p.z.squared()
	high := p.x.minus(one).times(p.x.plus(one))
	high = high.doubled().plus(high)
	square := p.y.squared().doubled()
	x, y := p.x.times(square).doubled(), square.squared().doubled()
	var twice point
	twice.x = high.squared().minus(x.doubled())
	twice.y = high.times(x.minus(twice.x)).minus(y)
	twice.z = p.y.times(p.z).doubled()
	return twice
}

func (p point) times(n number) point { return both(n, p, number{}, point{}) }

// both is n times p and m times q, summed: the doublings on the way are made once for the two.
func both(n number, p point, m number, q point) point {
	adds := [4]func(point) point{point{}.plus, p.plus, q.plus, p.plus(q).plus}
	var sum point
	for i := range 8 * size {
		at := 8*size - 1 - i
		sum = sum.doubled()
		sum = adds[n.digit(at)+2*m.digit(at)](sum)
	}
	return sum
}
