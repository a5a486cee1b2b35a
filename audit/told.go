package audit

import (
	"wardmote/api"
	"wardmote/bind"
	"wardmote/field"
)

// A nonce is a pair, and how it was bound. Shares of one nonce differ in nothing but weight times challenge times the share
// of the key.
type nonce struct {
	pair   bind.Pair
	factor api.Num
}

// nonce is the one of which a share was told.
func (t Told) nonce() nonce { return nonce{pair: t.Pair, factor: t.Factor} }

// isOfScalars tells whether all its numbers are scalars.
func (t Told) isOfScalars() bool {
	f := field.Scalars()
	for _, a := range [...]api.Num{t.Factor, t.Weight, t.Challenge, t.Z} {
		if f.Check(a) != api.OK {
			return false
		}
	}
	return true
}

// times is how many times the share of the key is in it, if it is of scalars.
func (t Told) times() api.Num {
	out, _ := field.Scalars().Mul(t.Weight, t.Challenge)
	return out
}

// secret is the share of the key that two shares of a nonce give away. (They have it unlike many times, so there is no
// error.)
func secret(a, b Told) api.Num {
	f := field.Scalars()
	more, _ := f.Sub(a.Z, b.Z)
	times, _ := f.Sub(a.times(), b.times())
	once, _ := f.Inv(times)
	out, _ := f.Mul(more, once)
	return out
}
