package bind

import (
	"iter"

	"wardmote/api"
	"wardmote/curve"
)

// listKind is the kind of a list's record.
const listKind = 20

// How many bytes a pair's node and each of its points have, and the whole.
const (
	nodeLen  = 1
	pointLen = 33
	pairLen  = nodeLen + 2*pointLen
)

// points are those of a list, of each pair D and E.
func points(l []Pair) iter.Seq[api.Point] {
	return func(yield func(p api.Point) bool) {
		for _, pair := range l {
			if !yield(pair.D) || !yield(pair.E) {
				return
			}
		}
	}
}

// areNodes tells whether a list has pairs, and their nodes are such and rise (so there are never more than MaxNodes).
func areNodes(l []Pair) bool {
	last := 0
	for _, pair := range l {
		if pair.Node <= last || pair.Node > api.MaxNodes {
			return false
		}
		last = pair.Node
	}
	return len(l) > 0
}

// find is the pair of a node, and whether there is one.
func find(l []Pair, node int) (Pair, bool) {
	for _, pair := range l {
		if pair.Node == node {
			return pair, true
		}
	}
	return Pair{}, false
}

// code are the bytes of a pair in a list that is one.
func (a Pair) code() string {
	d, _ := curve.Encode(a.D)
	e, _ := curve.Encode(a.E)
	return nodeCode(a.Node) + d + e
}

// nodeCode is a node's byte.
func nodeCode(node int) string { return string([]byte{byte(node)}) }

// arePairs tells whether all items have a pair's length.
func arePairs(items []string) bool {
	for _, item := range items {
		if len(item) != pairLen {
			return false
		}
	}
	return true
}

// pairOf is the pair that bytes of its length are; its node may be none.
func pairOf(item string) (Pair, api.Errno) {
	d, e := curve.Decode(item[nodeLen : nodeLen+pointLen])
	if e != api.OK {
		return Pair{}, e
	}
	second, e := curve.Decode(item[nodeLen+pointLen:])
	if e != api.OK {
		return Pair{}, e
	}
	return Pair{Node: int(item[0]), D: d, E: second}, api.OK
}
