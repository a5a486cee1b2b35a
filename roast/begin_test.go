package roast_test

import (
	"math"
	"testing"

	"wardmote/api"
	"wardmote/bind"
)

// noPairs are a node's that are none: with a point that is none, or the one at infinity, first, last and both.
func noPairs(node int) []bind.Pair {
	var out []bind.Pair
	for _, a := range append([]api.Point{infinity}, strangers...) {
		for _, b := range []api.Point{g, infinity, {}} {
			out = append(out, bind.Pair{Node: node, D: a, E: b}, bind.Pair{Node: node, D: b, E: a})
		}
	}
	return out
}

// noNodes are not from 1 to n, also such as are mod 2^32.
func noNodes(n int) []int {
	return []int{0, n + 1, n + 2, 11, 12, -1, -n, 1<<32 + 1, 1 - 1<<32, 1 << 40, math.MinInt, math.MaxInt}
}

// 21.2: a node that is none, whatever its pair is; nothing is changed.
func TestBeginOfNoNode(t *testing.T) {
	tables(func(n, f int) {
		x := rigOf(t, n, f, "m")
		for _, node := range noNodes(n) {
			says(t, x.begin(pairOf(node, 1)), api.ErrArg)
			says(t, x.begin(bind.Pair{Node: node}), api.ErrArg)
			says(t, x.begin(bind.Pair{Node: node, D: infinity, E: g}), api.ErrArg)
			x.is(nil, nil, 0)
		}
		says(t, x.begin(pairOf(n, 1)), api.OK)
	})
}

// 21.2: a node that is ready, busy or bad, whatever its pair is; nothing is changed, and it is not made bad by it.
func TestBeginAgain(t *testing.T) {
	x := rigOf(t, 7, 2, "m")
	says(t, x.begin(pairOf(2, 1)), api.OK)
	says(t, x.begin(pairOf(5, 2)), api.OK)
	again := func(nodes ...int) {
		t.Helper()
		for _, node := range nodes {
			says(t, x.begin(pairOf(node, 9)), api.ErrState)
			for _, pair := range noPairs(node) {
				says(t, x.begin(pair), api.ErrState)
			}
		}
	}
	again(2, 5)
	x.is(nil, nil, 0)
	says(t, x.begin(pairOf(7, 3)), api.OK)
	again(2, 5, 7)
	x.is(nil, []int{2, 5, 7}, 1)
	// The session is of the pairs that were told first, and one that told its share is ready again.
	says(t, x.share(1, 5, x.right(5), pairOf(5, 4)), api.OK)
	says(t, x.share(1, 7, near(x.right(7)), pairOf(7, 5)), api.ErrShare)
	says(t, x.begin(bind.Pair{Node: 3}), api.ErrCurve)
	x.fail(1)
	again(1, 2, 3, 5, 7)
	x.is([]int{1, 3, 7}, []int{2}, 1)
	says(t, x.begin(pairOf(4, 6)), api.OK)
	again(4)
	says(t, x.begin(pairOf(6, 7)), api.OK)
	x.is([]int{1, 3, 7}, []int{2, 4, 5, 6}, 2)
	again(1, 2, 3, 4, 5, 6, 7)
}

// 21.2: a point that is none, or the one at infinity: the node is bad, and stays so; others are not.
func TestBeginOfNoPair(t *testing.T) {
	for _, pair := range noPairs(3) {
		x := rigOf(t, 4, 1, "m")
		says(t, x.begin(pairOf(1, 1)), api.OK)
		says(t, x.begin(pair), api.ErrCurve)
		x.is([]int{3}, nil, 0)
		says(t, x.begin(pairOf(3, 2)), api.ErrState)
		says(t, x.begin(pairOf(4, 3)), api.OK)
		x.is([]int{3}, []int{1, 4}, 1)
	}
	x := rigOf(t, 1, 0, "m")
	says(t, x.begin(bind.Pair{Node: 1, D: g}), api.ErrCurve)
	x.is([]int{1}, nil, 0)
}

// 21.2: the pair that makes f + 1 ready opens a session of them, by their nodes, in whatever order they came; the two
// points of a pair, and those of two nodes, may be the same.
func TestBeginOpens(t *testing.T) {
	tables(func(n, f int) {
		x, y := rigOf(t, n, f, "m"), rigOf(t, n, f, "m")
		var nodes []int
		for node := n - f; node <= n; node++ {
			nodes = append(nodes, node)
			says(t, x.begin(pairOf(node, node)), api.OK)
			says(t, y.begin(bind.Pair{Node: 2*n - f - node, D: g, E: timesG(api.Num{1})}), api.OK)
			if node < n {
				x.is(nil, nil, 0)
				y.is(nil, nil, 0)
			}
		}
		x.is(nil, nodes, 1)
		y.is(nil, nodes, 1)
	})
}

// 21.2: further sessions open with each f + 1 that are ready, and the first ones stay.
func TestManyBegin(t *testing.T) {
	x := rigOf(t, 10, 1, "m")
	for i, node := range []int{9, 2, 4, 3, 10, 1, 5, 8, 7, 6} {
		says(t, x.begin(pairOf(node, node)), api.OK)
		if x.r.Sessions() != (i+1)/2 || len(x.r.Busy()) != (i+1)/2*2 {
			t.Fatalf("behind %d: %d sessions of %v", i+1, x.r.Sessions(), x.r.Busy())
		}
	}
	// Each is busy in its own.
	for session, nodes := range [][]int{1: {2, 9}, {3, 4}, {1, 10}, {5, 8}, {6, 7}} {
		for _, node := range nodes {
			if x.p.in[node] != session {
				t.Errorf("node %d is in %d", node, x.p.in[node])
			}
		}
	}
	says(t, x.share(4, 5, x.right(5), pairOf(5, 20)), api.OK)
	says(t, x.share(4, 8, x.right(8), pairOf(8, 21)), api.OK)
	if _, is := x.r.Done(); !is {
		t.Error("not done")
	}
}
