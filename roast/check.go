package roast

import (
	"wardmote/api"
	"wardmote/cast"
	"wardmote/curve"
)

// check tells whether a key is one of a table, and a message one that is signed, as gather.New asks for it. (That can't be
// asked without a list.)
func check(n, f int, group []api.Point, m string) api.Errno {
	if !cast.Table(n, f) || len(group) != f+1 {
		return api.ErrArg
	}
	for _, p := range group {
		if e := curve.Check(p); e != api.OK {
			return e
		}
	}
	switch {
	case group[0].Inf:
		return api.ErrCurve
	case len(m) > api.MaxText:
		return api.ErrLong
	}
	return api.OK
}
