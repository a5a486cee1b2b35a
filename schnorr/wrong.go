package schnorr

import (
	"wardmote/api"
	"wardmote/curve"
	"wardmote/field"
)

// firstWrong is the first error that one of some questions tells; those behind it are not asked, so that each may
// rely on all ahead of it.
func firstWrong(questions ...func() api.Errno) api.Errno {
	for _, ask := range questions {
		if e := ask(); e != api.OK {
			return e
		}
	}
	return api.OK
}

// A point may be none of the curve.
type point api.Point

func (p point) onCurve() api.Errno { return curve.Check(api.Point(p)) }

func (p point) finite() api.Errno {
	if p.Inf {
		return api.ErrCurve
	}
	return p.onCurve()
}

// A message may be too long to be signed.
type message string

func (m message) short() api.Errno {
	if len(m) > api.MaxText {
		return api.ErrLong
	}
	return api.OK
}

// A number may be no scalar, or 0.
type number api.Num

func (n number) scalar() api.Errno { return field.Scalars().Check(api.Num(n)) }

func (n number) notZero() api.Errno {
	if n == (number{}) {
		return api.ErrZero
	}
	return api.OK
}

// A claim is that a signature holds for a point and a message.
type claim struct {
	y api.Point
	m string
	s api.Sig
}

// kept tells whether the equation is kept, of points and a scalar. It is asked as Z G - c Y = R, since that is one sum
// of products, and costs not much more than one product.
func (c claim) kept() api.Errno {
	negative, _ := field.Scalars().Neg(challenge(c.s.R, c.y, c.m))
	r, _ := curve.Sum([]api.Num{c.s.Z, negative}, []api.Point{curve.G(), c.y})
	if r != c.s.R {
		return api.ErrSign
	}
	return api.OK
}
