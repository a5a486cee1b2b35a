package signer

import (
	"testing"

	"wardmote/api"
	"wardmote/bind"
	"wardmote/curve"
	"wardmote/dkg"
)

// atInfinity is what bind.Group would tell of a list whose nonces' sum is the point at infinity.
func atInfinity(api.Point, string, []bind.Pair) (api.Point, api.Errno) {
	return api.Point{}, api.ErrCurve
}

// 19.2: bind.Group's error comes last, and leaves the nonce as it was; that is made up, as no such list is known.
func TestGroupError(t *testing.T) {
	g := curve.G()
	s, e := New(dkg.Key{N: 1, Self: 1, Share: api.Num{1}, Public: g, Group: []api.Point{g}}, "s", 0)
	if e != api.OK {
		t.Fatal(e)
	}
	_, pair, _ := s.Issue()
	l, other := []bind.Pair{pair}, []bind.Pair{{Node: 1, D: g, E: g}}
	for _, c := range []struct {
		nonce int
		m     string
		l     []bind.Pair
		want  api.Errno
	}{
		{0, "m", l, api.ErrArg}, {2, "m", l, api.ErrNone}, {1, "m", nil, api.ErrArg},
		{1, string(make([]byte, api.MaxText+1)), l, api.ErrLong}, {1, "m", other, api.ErrForm}, {1, "m", l, api.ErrCurve},
	} {
		if z, e := s.sign(atInfinity, c.nonce, c.m, c.l); z != (api.Num{}) || e != c.want || s.Spent(1) {
			t.Errorf("sign(%d): %v, %v, not %v; Spent: %v", c.nonce, z, e, c.want, s.Spent(1))
		}
	}
	if _, e := s.Sign(1, "m", l); e != api.OK || !s.Spent(1) {
		t.Errorf("Sign: %v", e)
	}
	if _, e := s.sign(atInfinity, 1, "m", l); e != api.ErrSpent {
		t.Errorf("sign: %v", e)
	}
}

// 19.3: what is kept of nonces is those that are issued and not spent, so that a signer does not grow as it signs.
func TestSpentAreLetGo(t *testing.T) {
	g := curve.G()
	s, _ := New(dkg.Key{N: 1, Self: 1, Share: api.Num{1}, Public: g, Group: []api.Point{g}}, "s", 1000)
	for i := range 10 {
		nonce, pair, _ := s.Issue()
		if i%2 == 0 {
			s.Sign(nonce, "m", []bind.Pair{pair})
		}
		if len(s.open) != (i+1)/2 {
			t.Errorf("%d are kept", len(s.open))
		}
	}
}
