package gather

import (
	"strings"
	"testing"

	"wardmote/api"
	"wardmote/bind"
	"wardmote/curve"
)

// atInfinity is what bind.Group would tell of a list whose nonces' sum is the point at infinity.
func atInfinity(api.Point, string, []bind.Pair) (api.Point, api.Errno) {
	return api.Point{}, api.ErrCurve
}

// 20.1: bind.Group's error comes last; that is made up, as no such list is known.
func TestGroupError(t *testing.T) {
	g := curve.G()
	group, l, m := []api.Point{g}, []bind.Pair{{Node: 1, D: g, E: g}}, "m"
	above, long := []bind.Pair{{Node: 2, D: g, E: g}}, strings.Repeat("m", api.MaxText+1)
	for _, c := range []struct {
		n     int
		group []api.Point
		m     string
		l     []bind.Pair
		want  api.Errno
	}{
		{0, group, m, l, api.ErrArg}, {1, nil, m, l, api.ErrArg}, {1, group, m, nil, api.ErrArg},
		{1, group, m, above, api.ErrArg}, {1, group, long, l, api.ErrLong}, {1, group, m, l, api.ErrCurve},
	} {
		if x, e := begin(atInfinity, c.n, 0, c.group, c.m, c.l); x != nil || e != c.want {
			t.Errorf("begin: %v, %v, not %v", x, e, c.want)
		}
	}
}
