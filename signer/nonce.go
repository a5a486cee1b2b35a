package signer

import (
	"wardmote/api"
	"wardmote/bind"
	"wardmote/curve"
	"wardmote/domain"
	"wardmote/field"
	"wardmote/schnorr"
	"wardmote/share"
)

// The ends for which a nonce's secrets are drawn.
const (
	labelD = "wardmote/d"
	labelE = "wardmote/e"
)

// secrets are a nonce's. They are drawn whenever they are asked for, so that those of spent nonces are kept nowhere.
type secrets struct{ d, e api.Num }

// nonceSum is what bind.Group is: the sum of all nonces of a list, for a public point and a message.
type nonceSum func(y api.Point, m string, l []bind.Pair) (api.Point, api.Errno)

// draw are the secrets of a nonce that is issued. (The labels are tags, and it is at most MaxBig, so there is no error.)
func (s *Signer) draw(nonce int) secrets {
	d, _ := domain.Draw(s.seed, labelD, nonce)
	e, _ := domain.Draw(s.seed, labelE, nonce)
	return secrets{d: d, e: e}
}

// pair is a nonce's pair, of its node.
func (x secrets) pair(node int) bind.Pair {
	d, _ := curve.Mul(x.d, curve.G())
	e, _ := curve.Mul(x.e, curve.G())
	return bind.Pair{Node: node, D: d, E: e}
}

// tell is the share of a signature with a nonce, of a message and a list that were checked, whose nonces' sum is r.
func (s *Signer) tell(x secrets, r api.Point, m string, l []bind.Pair) api.Num {
	factor, _ := bind.Factor(s.public, m, l, s.self)
	weight, _ := share.Weight(nodes(l), s.self)
	c, _ := schnorr.Challenge(r, s.public, m)
	scalars := field.Scalars()
	bound := fold(scalars.Mul, factor, x.e)
	part := fold(scalars.Mul, weight, c, s.share)
	return fold(scalars.Add, x.d, bound, part)
}

// fold is what a field's sum or product makes of scalars, one by one; of these it tells no error.
func fold(of func(a, b api.Num) (api.Num, api.Errno), first api.Num, others ...api.Num) api.Num {
	for _, other := range others {
		first, _ = of(first, other)
	}
	return first
}

// nodes are those of a list.
func nodes(l []bind.Pair) []int {
	out := make([]int, len(l))
	for i, pair := range l {
		out[i] = pair.Node
	}
	return out
}
