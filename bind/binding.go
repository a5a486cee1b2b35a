package bind

import (
	"slices"

	"wardmote/api"
	"wardmote/curve"
	"wardmote/domain"
)

// bindingTag is the end for which factors are hashed.
const bindingTag = "wardmote/binding"

// A binding is what all factors of a signature are hashed of, as bytes: the public point, the message and the list.
type binding struct{ y, m, list string }

// newBinding is the binding of what is right; or what is wrong first, a list ahead of the rest.
func newBinding(y api.Point, m string, l []Pair) (binding, api.Errno) {
	list, e := Encode(l)
	if e != api.OK {
		return binding{}, e
	}
	if e := finite(y); e != api.OK {
		return binding{}, e
	}
	if len(m) > api.MaxText {
		return binding{}, api.ErrLong
	}
	code, _ := curve.Encode(y)
	return binding{y: code, m: m, list: list}, api.OK
}

// factor is a node's. (The tag is one, so there is no error.)
func (b binding) factor(node int) api.Num {
	out, _ := domain.Scalar(bindingTag, []string{b.y, b.m, b.list, nodeCode(node)})
	return out
}

// group is the sum of all nonces, if it is not the point at infinity. What tells the factors is handed in, as no list is
// known whose own ones sum up to that.
func group(factor func(node int) api.Num, l []Pair) (api.Point, api.Errno) {
	out := sum(factor, l)
	if out.Inf {
		return api.Point{}, api.ErrCurve
	}
	return out, api.OK
}

// sum is the sum of pairs' nonces: of each D, and its factor times E. All are summed at once, as that is far less work
// than nonce by nonce; a list has never more points than curve.Sum takes.
func sum(factor func(node int) api.Num, l []Pair) api.Point {
	var times []api.Num
	for _, pair := range l {
		times = append(times, api.Num{1}, factor(pair.Node))
	}
	out, _ := curve.Sum(times, slices.Collect(points(l)))
	return out
}
