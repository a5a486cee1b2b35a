package roast_test

import (
	"math"
	"testing"

	"wardmote/api"
	"wardmote/bind"
)

// opened is a rig in which nodes 1 and 3 of four are in session 1.
func opened(t *testing.T) rig {
	t.Helper()
	x := rigOf(t, 4, 1, "m")
	says(t, x.begin(pairOf(1, 1)), api.OK)
	says(t, x.begin(pairOf(3, 2)), api.OK)
	x.is(nil, []int{1, 3}, 1)
	return x
}

// finished is a rig that is done, by nodes 1 and 3 of four; node 2 is bad, and node 4 told nothing.
func finished(t *testing.T) rig {
	t.Helper()
	x := opened(t)
	x.fail(2)
	says(t, x.share(1, 1, x.right(1), pairOf(1, 3)), api.OK)
	x.is([]int{2}, []int{3}, 1)
	says(t, x.share(1, 3, x.right(3), pairOf(3, 4)), api.OK)
	looks(t, x.r, []int{2}, nil, 1, x.p.sittings[0].sig, true)
	return x
}

// shares are right, wrong and none, of a node.
func shares(x rig, node int) []api.Num {
	return append([]api.Num{x.right(node), near(x.right(node)), {}, {1}}, greats...)
}

// nexts are pairs, and none, of a node and of others.
func nexts(node int) []bind.Pair {
	return append(noPairs(node), pairOf(node, 8), pairOf(node+1, 8), pairOf(0, 8), pairOf(5, 8), bind.Pair{})
}

// 21.3: a node that is none: ErrArg, whatever else is wrong; nothing is changed.
func TestShareOfNoNode(t *testing.T) {
	x := opened(t)
	for _, node := range noNodes(4) {
		for _, session := range []int{-1, 0, 1, 2, math.MaxInt} {
			for _, z := range shares(x, 1) {
				says(t, x.share(session, node, z, pairOf(node, 3)), api.ErrArg)
				says(t, x.share(session, node, z, bind.Pair{}), api.ErrArg)
			}
		}
	}
	x.is(nil, []int{1, 3}, 1)
}

// 21.3: no such session, or a node that is not busy in it: ErrNone, whatever the share and the next pair are; nothing is
// changed.
func TestShareOfNoSession(t *testing.T) {
	x := opened(t)
	none := func(session, node int) {
		t.Helper()
		for _, z := range shares(x, 1) {
			says(t, x.share(session, node, z, pairOf(node, 3)), api.ErrNone)
			says(t, x.share(session, node, z, bind.Pair{}), api.ErrNone)
		}
	}
	none(1, 2) // it told nothing yet
	for _, session := range []int{math.MinInt, -1, 0, 2, 3, 1<<32 + 1, math.MaxInt} {
		for node := 1; node <= 4; node++ {
			none(session, node)
		}
	}
	x.is(nil, []int{1, 3}, 1)
	says(t, x.share(1, 1, x.right(1), pairOf(1, 3)), api.OK)
	none(1, 1) // ready, its share was taken
	none(2, 1)
	says(t, x.begin(pairOf(4, 4)), api.OK)
	none(1, 1) // busy in another session
	none(1, 4)
	none(2, 3)
	x.is(nil, []int{1, 3, 4}, 2)
	x.fail(3)
	none(1, 3) // bad
	says(t, x.share(2, 4, near(x.right(4)), pairOf(4, 5)), api.ErrShare)
	none(2, 4)
	x.is([]int{3, 4}, []int{1}, 2)
	says(t, x.begin(pairOf(2, 6)), api.OK)
	none(1, 2) // ready
	none(2, 2)
	x.is([]int{3, 4}, []int{1}, 2)
}

// 21.3: z that is no scalar, or wrong: the node is bad, whatever the next pair is; with the others it goes on.
func TestWrongShare(t *testing.T) {
	for i, z := range shares(opened(t), 1)[1:] {
		for _, next := range nexts(1) {
			x, want := opened(t), api.ErrShare
			if i >= 3 {
				want = api.ErrRange
			}
			says(t, x.share(1, 1, z, next), want)
			x.is([]int{1}, []int{3}, 1)
			says(t, x.share(1, 1, x.right(1), pairOf(1, 3)), api.ErrNone)
			if next != nexts(1)[0] { // what follows costs much
				continue
			}
			// The other one's share is taken, and does not finish the session.
			says(t, x.share(1, 3, x.right(3), pairOf(3, 4)), api.OK)
			x.is([]int{1}, nil, 1)
			says(t, x.begin(pairOf(1, 5)), api.ErrState)
			says(t, x.begin(pairOf(2, 6)), api.OK)
			x.is([]int{1}, []int{2, 3}, 2)
			says(t, x.share(2, 2, x.right(2), pairOf(2, 7)), api.OK)
			says(t, x.share(2, 3, x.right(3), pairOf(3, 8)), api.OK)
			looks(t, x.r, []int{1}, nil, 2, x.p.sittings[1].sig, true)
		}
	}
}

// 21.3: as a last share, a wrong one finishes nothing either.
func TestWrongLastShare(t *testing.T) {
	for i, z := range shares(opened(t), 3)[1:] {
		x, want := opened(t), api.ErrShare
		if i >= 3 {
			want = api.ErrRange
		}
		says(t, x.share(1, 1, x.right(1), pairOf(1, 3)), api.OK)
		says(t, x.share(1, 3, z, pairOf(3, 4)), want)
		x.is([]int{3}, nil, 1)
	}
}

// 21.3: next's Node another one, or a point of it none: the node is bad, but its share stays taken: the other one's
// finishes the session.
func TestWrongNext(t *testing.T) {
	wrong := map[api.Errno][]bind.Pair{
		api.ErrArg:   {pairOf(0, 5), pairOf(2, 5), pairOf(3, 5), pairOf(4, 5), pairOf(5, 5), pairOf(-1, 5), pairOf(11, 5), {}, {Node: 3}},
		api.ErrCurve: noPairs(1),
	}
	for _, pair := range noPairs(2) {
		wrong[api.ErrArg] = append(wrong[api.ErrArg], pair)
	}
	for want, all := range wrong {
		for _, next := range all {
			x := opened(t)
			says(t, x.share(1, 1, x.right(1), next), want)
			x.is([]int{1}, []int{3}, 1)
			says(t, x.share(1, 1, x.right(1), pairOf(1, 3)), api.ErrNone)
			says(t, x.begin(pairOf(1, 3)), api.ErrState)
			says(t, x.share(1, 3, x.right(3), pairOf(3, 4)), api.OK)
			looks(t, x.r, []int{1}, nil, 1, x.p.sittings[0].sig, true)
		}
	}
}

// 21.3: the last share that was missing finishes it, whatever the next pair is: that is not looked at. The node is neither
// bad nor busy.
func TestLastShare(t *testing.T) {
	for _, next := range nexts(3) {
		x := opened(t)
		says(t, x.share(1, 1, x.right(1), pairOf(1, 3)), api.OK)
		says(t, x.share(1, 3, x.right(3), next), api.OK)
		looks(t, x.r, nil, nil, 1, x.p.sittings[0].sig, true)
	}
}

// 21.3: a next pair that makes f + 1 ready opens a session, also of one node again and again.
func TestNextOpens(t *testing.T) {
	x := opened(t)
	says(t, x.begin(pairOf(2, 3)), api.OK)
	x.is(nil, []int{1, 3}, 1)
	says(t, x.share(1, 3, x.right(3), pairOf(3, 4)), api.OK)
	x.is(nil, []int{1, 2, 3}, 2)
	if l := x.p.sittings[1].l; l[0] != pairOf(2, 3) || l[1] != pairOf(3, 4) {
		t.Errorf("session 2: %v", l)
	}
	says(t, x.begin(pairOf(4, 5)), api.OK)
	says(t, x.share(2, 3, x.right(3), pairOf(3, 6)), api.OK)
	x.is(nil, []int{1, 2, 3, 4}, 3)
	// All three sessions are open: the first that has all its shares is the one.
	says(t, x.share(3, 3, x.right(3), pairOf(3, 7)), api.OK)
	says(t, x.share(2, 2, x.right(2), pairOf(2, 8)), api.OK)
	looks(t, x.r, nil, []int{1, 4}, 3, x.p.sittings[1].sig, true)
}

// 21.3: next may be the pair that was told before; only the nodes' numbers are looked at, and the points.
func TestSamePair(t *testing.T) {
	x := opened(t)
	says(t, x.share(1, 3, x.right(3), pairOf(3, 2)), api.OK)
	says(t, x.begin(pairOf(4, 2)), api.OK)
	x.is(nil, []int{1, 3, 4}, 2)
	says(t, x.share(2, 4, x.right(4), pairOf(4, 2)), api.OK)
	says(t, x.share(2, 3, x.right(3), pairOf(3, 2)), api.OK)
	looks(t, x.r, nil, []int{1}, 2, x.p.sittings[1].sig, true)
}

// 21.3: a share of a table whose nodes are f + 1 or more, in any order, is the last one once.
func TestAllShares(t *testing.T) {
	tables(func(n, f int) {
		for _, m := range []string{"", full} {
			x := rigOf(t, n, f, m)
			for node := n - f; node <= n; node++ {
				says(t, x.begin(pairOf(node, node)), api.OK)
			}
			for node := n; node >= n-f; node-- {
				x.is(nil, x.p.those("busy"), 1)
				says(t, x.share(1, node, x.right(node), pairOf(node, 10+node)), api.OK)
			}
			looks(t, x.r, nil, nil, 1, x.p.sittings[0].sig, true)
		}
	})
}

// 21.2, 21.3: when it is done: ErrState of Begin and Share, whatever else is wrong; nothing is changed.
func TestDone(t *testing.T) {
	x := finished(t)
	for _, node := range append([]int{1, 2, 3, 4}, noNodes(4)...) {
		for _, pair := range append(noPairs(node), pairOf(node, 5)) {
			says(t, x.begin(pair), api.ErrState)
		}
		for _, session := range []int{-1, 0, 1, 2} {
			for _, z := range shares(x, 1) {
				says(t, x.share(session, node, z, pairOf(node, 5)), api.ErrState)
				says(t, x.share(session, node, z, bind.Pair{}), api.ErrState)
			}
		}
	}
	looks(t, x.r, []int{2}, nil, 1, x.p.sittings[0].sig, true)
}

// 21.4: Fail of a node that is none, bad already, told nothing, ready, busy, and of one whose share was taken.
func TestFail(t *testing.T) {
	x := opened(t)
	fails := func(node int, want bool, none api.Errno) {
		t.Helper()
		x.p.fail(node)
		if was, e := x.r.Fail(node); was != want || e != none {
			t.Fatalf("Fail(%d): %v, %v, not %v, %v", node, was, e, want, none)
		}
		x.like()
	}
	for _, node := range noNodes(4) {
		fails(node, false, api.ErrArg)
	}
	x.is(nil, []int{1, 3}, 1)
	fails(2, true, api.OK) // it told nothing
	fails(2, false, api.OK)
	says(t, x.begin(pairOf(2, 5)), api.ErrState)
	says(t, x.share(1, 1, x.right(1), pairOf(1, 3)), api.OK)
	fails(1, true, api.OK) // ready: its pair is in no session any more, its share stays taken
	fails(1, false, api.OK)
	x.is([]int{1, 2}, []int{3}, 1)
	says(t, x.begin(pairOf(4, 4)), api.OK)
	x.is([]int{1, 2}, []int{3}, 1)
	says(t, x.share(1, 3, x.right(3), pairOf(3, 6)), api.OK)
	looks(t, x.r, []int{1, 2}, nil, 1, x.p.sittings[0].sig, true)
	for _, node := range noNodes(4) { // and when it is done
		fails(node, false, api.ErrArg)
	}
	fails(1, false, api.OK)
	fails(3, true, api.OK)
	fails(4, true, api.OK)
	looks(t, x.r, []int{1, 2, 3, 4}, nil, 1, x.p.sittings[0].sig, true)
}

// 21.4: a node that is busy, and failed: its share is not taken any more, and the session is never finished.
func TestFailBusy(t *testing.T) {
	x := opened(t)
	x.fail(3)
	x.is([]int{3}, []int{1}, 1)
	says(t, x.share(1, 3, x.right(3), pairOf(3, 3)), api.ErrNone)
	says(t, x.share(1, 1, x.right(1), pairOf(1, 4)), api.OK)
	x.is([]int{3}, nil, 1)
	says(t, x.begin(pairOf(2, 5)), api.OK)
	x.is([]int{3}, []int{1, 2}, 2)
	x.fail(2)
	x.fail(1)
	x.fail(4)
	x.is([]int{1, 2, 3, 4}, nil, 2)
}
