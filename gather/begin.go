package gather

import (
	"wardmote/api"
	"wardmote/bind"
	"wardmote/cast"
	"wardmote/curve"
	"wardmote/schnorr"
)

// nonceSum is what bind.Group is: the sum of all nonces of a list, for a public point and a message.
type nonceSum func(y api.Point, m string, l []bind.Pair) (api.Point, api.Errno)

// begin is New. What sums the nonces is handed in, as no list is known whose sum is the point at infinity.
func begin(sum nonceSum, n, f int, group []api.Point, m string, l []bind.Pair) (*Gather, api.Errno) {
	if e := checkKey(n, f, group); e != api.OK {
		return nil, e
	}
	if e := checkList(n, f, m, l); e != api.OK {
		return nil, e
	}
	r, e := sum(group[0], m, l)
	if e != api.OK {
		return nil, e
	}
	g := &Gather{r: r}
	c, _ := schnorr.Challenge(r, group[0], m)
	for _, pair := range l {
		g.seats[pair.Node] = seat{right: right(c, group, m, l, pair.Node), state: missing}
	}
	return g, api.OK
}

// checkKey tells whether a key is one of a table.
func checkKey(n, f int, group []api.Point) api.Errno {
	if !cast.Table(n, f) || len(group) != f+1 {
		return api.ErrArg
	}
	for _, p := range group {
		if e := curve.Check(p); e != api.OK {
			return e
		}
	}
	if group[0].Inf {
		return api.ErrCurve
	}
	return api.OK
}

// checkList tells whether a list is one of the table's, and a message one that is signed.
func checkList(n, f int, m string, l []bind.Pair) api.Errno {
	if e := bind.Check(l); e != api.OK {
		return e
	}
	switch {
	case len(l) != f+1, l[len(l)-1].Node > n: // nodes rise, so that none is above the last one
		return api.ErrArg
	case len(m) > api.MaxText:
		return api.ErrLong
	}
	return api.OK
}
