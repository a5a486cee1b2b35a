package signer

import (
	"wardmote/api"
	"wardmote/bind"
	"wardmote/cast"
	"wardmote/curve"
	"wardmote/dkg"
	"wardmote/field"
)

// serves tells whether a key does.
func serves(k dkg.Key) bool {
	return cast.Table(k.N, k.F) && k.Self >= 1 && k.Self <= k.N && field.Scalars().Check(k.Share) == api.OK &&
		len(k.Group) == k.F+1 && arePoints(k.Group) && !k.Group[0].Inf && k.Public == k.Group[0]
}

// arePoints tells whether all are such.
func arePoints(l []api.Point) bool {
	for _, p := range l {
		if curve.Check(p) != api.OK {
			return false
		}
	}
	return true
}

// checkNonce tells whether a nonce can be spent.
func (s *Signer) checkNonce(nonce int) api.Errno {
	switch {
	case nonce < 1:
		return api.ErrArg
	case nonce > s.Issued():
		return api.ErrNone
	case !s.isOpen(nonce):
		return api.ErrSpent
	}
	return api.OK
}

// checkList tells whether a list is one of the key's, and a message one that is signed.
func (s *Signer) checkList(m string, l []bind.Pair) api.Errno {
	if e := bind.Check(l); e != api.OK {
		return e
	}
	switch {
	case len(l) != s.f+1, l[len(l)-1].Node > s.n: // nodes rise, so that none is above the last one
		return api.ErrArg
	case len(m) > api.MaxText:
		return api.ErrLong
	}
	return api.OK
}

// checkPair tells whether a list has a node's own pair; or that it has none of that node, or another one.
func checkPair(l []bind.Pair, own bind.Pair) api.Errno {
	for _, pair := range l {
		switch {
		case pair == own:
			return api.OK
		case pair.Node == own.Node:
			return api.ErrForm
		}
	}
	return api.ErrNone
}
