package curve

import (
	"wardmote/api"
	"wardmote/limb"
)

// threeHalves is what, doubled, is 3 mod P.
var threeHalves = api.Num{0xFFFFFFFF7FFFFE19, 0xFFFFFFFFFFFFFFFF, 0xFFFFFFFFFFFFFFFF, 0x7FFFFFFFFFFFFFFF}

// A spot is where a sum of points has come to: the point of the coordinates x / z^2 and y / z^3, or, if z is 0, the
// one at infinity. So only the last of many sums needs an inverse, which takes as long as some hundred products.
type spot struct {
	plane
	x, y, z api.Num
}

// at is the spot where a point is.
func (pl plane) at(p *api.Point) spot {
	if p.Inf {
		return spot{plane: pl}
	}
	return spot{plane: pl, x: p.X, y: p.Y, z: api.Num{1}}
}

// point is the point where a spot is.
func (s *spot) point() api.Point {
	if s.z == (api.Num{}) {
		return api.Point{Inf: true}
	}
	inverse, _ := s.base.Inv(s.z)
	square := s.times(inverse, inverse)
	return api.Point{X: s.times(s.x, square), Y: s.times(s.y, s.times(square, inverse))}
}

// double goes from a spot's point to twice it: z becomes y z, half of what the tangent makes of it, and so x and y a
// fourth and an eighth, which saves sums.
func (s *spot) double() {
	if s.z == (api.Num{}) {
		return
	}
	slope := s.times(s.times(s.x, s.x), threeHalves)
	square := s.times(s.y, s.y)
	mid := s.times(s.x, square)
	s.z = s.times(s.y, s.z)
	s.x = s.minus(s.times(slope, slope), s.plus(mid, mid))
	s.y = s.minus(s.times(slope, s.minus(mid, s.x)), s.times(square, square))
}

// add goes from a spot's point to its sum with another.
func (s *spot) add(p *api.Point) {
	if p.Inf {
		return
	}
	if s.z == (api.Num{}) {
		*s = s.at(p)
		return
	}
	square := s.times(s.z, s.z)
	across := s.minus(s.times(p.X, square), s.x)
	up := s.minus(s.times(p.Y, s.times(square, s.z)), s.y)
	if across == (api.Num{}) {
		s.meet(up)
		return
	}
	across2 := s.times(across, across)
	across3 := s.times(across2, across)
	mid := s.times(s.x, across2)
	s.z = s.times(s.z, across)
	s.x = s.minus(s.minus(s.times(up, up), across3), s.plus(mid, mid))
	s.y = s.minus(s.times(up, s.minus(mid, s.x)), s.times(s.y, across3))
}

// meet adds a point of the same X, whose Y is up more than the spot's: the same point, if that is 0, or its negative.
func (s *spot) meet(up api.Num) {
	if up == (api.Num{}) {
		s.double()
		return
	}
	s.z = api.Num{}
}

// climb is the sum of each number times its point. It goes through the bits of all numbers at once, the highest
// first. As k is (3 k - k) / 2, a point is added where 3 k has a bit and k has none, and taken away where k has one
// and 3 k has none: that is at a third of the places, and k alone has bits at half of them.
func (pl plane) climb(double func(s *spot), add func(s *spot, p *api.Point), k []api.Num, p []api.Point) api.Point {
	triples := make([]api.Wide, len(k))
	against := make([]api.Point, len(p))
	for i := range k {
		triples[i] = limb.Mul(k[i], api.Num{3})
		against[i] = pl.negative(p[i])
	}
	out := spot{plane: pl}
	for place := 257; place > 0; place-- {
		double(&out)
		for i := range k {
			plus, minus := triples[i][place/64]>>(place%64)&1, limb.Bit(k[i], place)
			if plus > minus {
				add(&out, &p[i])
			}
			if plus < minus {
				add(&out, &against[i])
			}
		}
	}
	return out.point()
}
