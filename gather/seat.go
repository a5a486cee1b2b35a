package gather

import (
	"wardmote/api"
	"wardmote/bind"
	"wardmote/curve"
	"wardmote/feld"
	"wardmote/field"
	"wardmote/share"
)

// What became of a node's share.
const (
	absent = iota // it is not in the list
	missing
	taken
	bad // it was wrong
)

// A seat is what a gathering has of a node.
type seat struct {
	right api.Point // the right share, times G
	state int
}

// check tells whether a number is the right share.
func (s *seat) check(z api.Num) api.Errno {
	told, e := curve.Mul(z, curve.G())
	if e != api.OK {
		return e
	}
	if told != s.right {
		return api.ErrShare
	}
	return api.OK
}

// right is what a node's share is, times G, if it is right: its nonce, and weight c times what the group tells of it. (All
// was checked, so there is no error.)
func right(c api.Num, group []api.Point, m string, l []bind.Pair, node int) api.Point {
	nonce, _ := bind.Nonce(group[0], m, l, node)
	value, _ := feld.Value(group, node)
	weight, _ := share.Weight(nodes(l), node)
	part, _ := field.Scalars().Mul(weight, c)
	out, _ := curve.Sum([]api.Num{{1}, part}, []api.Point{nonce, value})
	return out
}

// nodes are those of a list.
func nodes(l []bind.Pair) []int {
	out := make([]int, len(l))
	for i, pair := range l {
		out[i] = pair.Node
	}
	return out
}
