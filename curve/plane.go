package curve

import (
	"wardmote/api"
	"wardmote/field"
)

// A plane reckons with coordinates that are known to be below P, of which the field tells no error.
type plane struct {
	base *field.Field
}

func newPlane() plane { return plane{field.Base()} }

func (pl plane) plus(a, b api.Num) api.Num {
	out, _ := pl.base.Add(a, b)
	return out
}

func (pl plane) minus(a, b api.Num) api.Num {
	out, _ := pl.base.Sub(a, b)
	return out
}

func (pl plane) times(a, b api.Num) api.Num {
	out, _ := pl.base.Mul(a, b)
	return out
}

// square is what the square of Y is on the curve.
func (pl plane) square(x api.Num) api.Num {
	return pl.plus(pl.times(pl.times(x, x), x), api.Num{7})
}

func (pl plane) check(p *api.Point) api.Errno {
	if p.Inf {
		if *p != (api.Point{Inf: true}) {
			return api.ErrCurve
		}
		return api.OK
	}
	if pl.base.Check(p.X) != api.OK || pl.base.Check(p.Y) != api.OK {
		return api.ErrCurve
	}
	if pl.times(p.Y, p.Y) != pl.square(p.X) {
		return api.ErrCurve
	}
	return api.OK
}

func (pl plane) negative(p api.Point) api.Point {
	p.Y = pl.minus(api.Num{}, p.Y)
	return p
}
