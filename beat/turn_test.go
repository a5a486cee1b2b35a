package beat_test

import (
	"slices"
	"testing"

	"wardmote/api"
	"wardmote/beat"
)

// views are such as may be asked for, at both ends.
func views() []int {
	var out []int
	for i := range 25 {
		out = append(out, i, api.MaxBig-i, 1<<32-12+i)
	}
	return out
}

// 14.3: turns, one after the other.
func TestTurn(t *testing.T) {
	for n := 1; n <= 10; n++ {
		node := 1
		for view := range 100 {
			turn(t, n, view, node)
			if node++; node > n {
				node = 1
			}
		}
	}
	turn(t, 3, 4, 2)
	turn(t, 1, api.MaxBig, 1)
	turn(t, 2, api.MaxBig, 1)
	turn(t, 2, api.MaxBig-1, 2)
	turn(t, 3, api.MaxBig, 2)
	turn(t, 7, api.MaxBig, 3)
	turn(t, 10, api.MaxBig, 7)
}

// 14.3: no n, no view.
func TestTurnArg(t *testing.T) {
	fails := func(n, view int) {
		t.Helper()
		if got, e := beat.Turn(n, view); got != 0 || e != api.ErrArg {
			t.Errorf("Turn(%d, %d): %d, %v", n, view, got, e)
		}
		failsNext(t, api.ErrArg, n, view)
		failsNext(t, api.ErrArg, n, view, 1)
		failsNext(t, api.ErrArg, n, view, 0)
	}
	for _, n := range noTables {
		for _, view := range []int{-1, 0, 1, api.MaxBig, api.MaxBig + 1} {
			fails(n, view)
		}
	}
	for n := 1; n <= 10; n++ {
		for _, view := range noBigs {
			fails(n, view)
		}
	}
}

// 14.3: the next view of each set of silent nodes, told in any order, one of them twice, and from each view.
func TestNext(t *testing.T) {
	for n := 1; n <= 10; n++ {
		for set := range 1 << n {
			var list []int
			for node := n; node >= 1; node-- {
				if set>>(node-1)&1 == 1 {
					list = append(list, node)
				}
			}
			list = append(list, list...)
			for _, view := range []int{0, 1, n - 1, n, 7, 1<<32 - 1, api.MaxBig - 11, api.MaxBig - 3, api.MaxBig - 1, api.MaxBig} {
				nextOrNone(t, n, view, list)
			}
		}
	}
}

// nextOrNone looks for the next view, found by going on by one up to MaxBig, or so far that each node's turn came.
func nextOrNone(t *testing.T, n, view int, list []int) {
	t.Helper()
	for at := view + 1; at <= 1<<40 && at <= view+20; at++ {
		if !slices.Contains(list, at-at/n*n+1) {
			next(t, n, view, at, list...)
			return
		}
	}
	failsNext(t, api.ErrNone, n, view, list...)
}

// 14.3: none silent, all silent, and no view left.
func TestNextEnds(t *testing.T) {
	for n := 1; n <= 10; n++ {
		for _, view := range views() {
			if view < api.MaxBig {
				next(t, n, view, view+1)
			} else {
				failsNext(t, api.ErrNone, n, view)
			}
			failsNext(t, api.ErrNone, n, view, []int{10, 9, 8, 7, 6, 5, 4, 3, 2, 1}[10-n:]...)
		}
	}
	// The turn of MaxBig is node 2's of 3.
	next(t, 3, api.MaxBig-1, api.MaxBig, 1, 3)
	failsNext(t, api.ErrNone, 3, api.MaxBig-1, 2)
	next(t, 3, api.MaxBig-2, api.MaxBig-1, 2)
	failsNext(t, api.ErrNone, 3, api.MaxBig-2, 2, 1)
	next(t, 3, api.MaxBig-3, api.MaxBig-2, 2, 1)
	failsNext(t, api.ErrNone, 3, api.MaxBig)
}

// 14.3: one that is no node, wherever it stands, also where all nodes are silent and no view is left.
func TestNextArg(t *testing.T) {
	for n := 1; n <= 10; n++ {
		all := []int{1, 2, 3, 4, 5, 6, 7, 8, 9, 10}[:n]
		for _, none := range noNodes(n) {
			failsNext(t, api.ErrArg, n, 0, none)
			for at := range n + 1 {
				failsNext(t, api.ErrArg, n, 5, slices.Insert(slices.Clone(all), at, none)...)
				failsNext(t, api.ErrArg, n, api.MaxBig, slices.Insert(slices.Clone(all), at, none)...)
			}
		}
	}
}

// 14.3: nodes that are told very often.
func TestNextLong(t *testing.T) {
	next(t, 3, 1, 3, slices.Repeat([]int{3, 2}, 100000)...)
	failsNext(t, api.ErrArg, 3, 1, append(slices.Repeat([]int{3, 2}, 100000), 4)...)
}

// 14.5: in any n views each node has its turn.
func TestEachTurn(t *testing.T) {
	for n := 1; n <= 10; n++ {
		for _, from := range views() {
			if from+n-1 > api.MaxBig {
				continue
			}
			var nodes []int
			for view := from; view < from+n; view++ {
				node, _ := beat.Turn(n, view)
				nodes = append(nodes, node)
			}
			slices.Sort(nodes)
			if !slices.Equal(nodes, []int{1, 2, 3, 4, 5, 6, 7, 8, 9, 10}[:n]) {
				t.Fatalf("%d views from %d on: %v", n, from, nodes)
			}
		}
	}
}

// R3: a list that is handed in is not changed, spare room too.
func TestListStays(t *testing.T) {
	room := []int{3, 3, 1, 9, 9, 9}
	next(t, 3, 0, 1, room[:3]...)
	if !slices.Equal(room, []int{3, 3, 1, 9, 9, 9}) {
		t.Errorf("changed: %v", room)
	}
}
