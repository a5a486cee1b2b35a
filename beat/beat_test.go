package beat_test

import (
	"math"
	"slices"
	"testing"

	"wardmote/api"
	"wardmote/beat"
)

// 14.1, 14.2, 14.3: the document's example, and what its limits are.
func TestExample(t *testing.T) {
	w := watch(t, 3, 1, 0)
	checks(t, w, 4)
	checks(t, w, 5, 2, 3)
	silent(t, w, 2, 3)
	hears(t, w, 2, 6, true)
	timeouts(t, w, 0, 8, 4)
	silent(t, w, 3)
	next(t, 3, 1, 3, 3)
	if beat.Least != 4 || beat.Most != 64 {
		t.Error(beat.Least, beat.Most)
	}
}

// 14.1: watches of 1 node to MaxNodes, by each of them, from the first moment to the last.
func TestNew(t *testing.T) {
	for n := 1; n <= 10; n++ {
		for self := 1; self <= n; self++ {
			for _, now := range []int{0, 1, 5, 1 << 32, api.MaxBig - 5, api.MaxBig - 1, api.MaxBig} {
				w := watch(t, n, self, now)
				if got := w.Now(); got != now {
					t.Fatalf("Now: %d, not %d", got, now)
				}
				silent(t, w)
				want := slices.Repeat([]int{4}, n)
				want[self-1] = 0
				timeouts(t, w, want...)
				checks(t, w, now)
				if now+5 <= api.MaxBig {
					checks(t, w, now+4)
					want = []int{1, 2, 3, 4, 5, 6, 7, 8, 9, 10}[:n]
					want = slices.DeleteFunc(want, func(node int) bool { return node == self })
					checks(t, w, now+5, want...)
					silent(t, w, want...)
				}
			}
		}
	}
}

// 14.1: what is no watch.
func TestNewArg(t *testing.T) {
	fails := func(n, self, now int) {
		t.Helper()
		if w, e := beat.New(n, self, now); w != nil || e != api.ErrArg {
			t.Errorf("New(%d, %d, %d): %v, %v", n, self, now, w, e)
		}
	}
	for _, n := range noTables {
		for _, self := range []int{-1, 0, 1, 2, 10, 11, n} {
			fails(n, self, 0)
			fails(n, self, -1)
		}
	}
	for n := 1; n <= 10; n++ {
		for _, self := range noNodes(n) {
			fails(n, self, 0)
			fails(n, self, -1)
		}
		for _, now := range noBigs {
			fails(n, 1, now)
			fails(n, n, now)
		}
	}
}

// 14.1, 14.2: moments ahead of the watch's now, and behind MaxBig; they change nothing.
func TestMoments(t *testing.T) {
	w := watch(t, 3, 2, 10)
	refuse := func(now int) {
		t.Helper()
		for _, none := range append([]int{now - 1, now - 2, 0 - now, -1 - now}, noBigs...) {
			failsCheck(t, w, none)
			for node := 1; node <= 3; node++ {
				failsHeard(t, w, node, none)
			}
		}
		for _, node := range noNodes(3) {
			failsHeard(t, w, node, now)
			failsHeard(t, w, node, now+1)
			failsHeard(t, w, node, now-1)
		}
		if got := w.Now(); got != now {
			t.Fatalf("Now: %d, not %d", got, now)
		}
	}
	refuse(10)
	hears(t, w, 1, 12, false)
	refuse(12)
	checks(t, w, 15, 3)
	refuse(15)
	silent(t, w, 3)
	timeouts(t, w, 4, 0, 4)
	hears(t, w, 2, 16, false)
	refuse(16)
	checks(t, w, 16)
	checks(t, w, 17, 1)
	refuse(17)
	hears(t, w, 3, 17, true)
	hears(t, w, 1, api.MaxBig-1, true)
	refuse(api.MaxBig - 1)
	checks(t, w, api.MaxBig, 3)
	refuse(api.MaxBig)
	hears(t, w, 3, api.MaxBig, true)
	checks(t, w, api.MaxBig)
	silent(t, w)
	timeouts(t, w, 8, 0, 16)
}

// 14.1, 14.2: a node that is silent and heard again, until its timeout is Most, and once more; at each timeout it may be
// heard at just that, and is silent one later.
func TestTimeouts(t *testing.T) {
	w, now := watch(t, 2, 1, 7), 7
	for _, timeout := range []int{4, 8, 16, 32, 64, 64, 64} {
		timeouts(t, w, 0, timeout)
		checks(t, w, now+timeout-1)
		checks(t, w, now+timeout)
		hears(t, w, 2, now+timeout, false)
		now += timeout
		timeouts(t, w, 0, timeout)
		checks(t, w, now+timeout)
		silent(t, w)
		checks(t, w, now+timeout+1, 2)
		silent(t, w, 2)
		timeouts(t, w, 0, timeout)
		checks(t, w, now+timeout+1)
		checks(t, w, now+timeout+200)
		silent(t, w, 2)
		now += timeout + 200
		hears(t, w, 2, now, true)
		hears(t, w, 2, now, false)
		silent(t, w)
	}
	timeouts(t, w, 0, 64)
}

// 14.1: a node that was not told silent is heard as ever, however late, and its timeout stays.
func TestHeardLate(t *testing.T) {
	w := watch(t, 3, 3, 0)
	hears(t, w, 1, 1000, false)
	timeouts(t, w, 4, 4, 0)
	silent(t, w)
	checks(t, w, 1000, 2)
	hears(t, w, 2, 1000, true)
	timeouts(t, w, 4, 8, 0)
	checks(t, w, 1005, 1)
	checks(t, w, 1008)
	checks(t, w, 1009, 2)
}

// 14.1, 14.2: each node has a timeout of its own, and those that are told are rising.
func TestEachNode(t *testing.T) {
	w := watch(t, 10, 4, 0)
	for i, node := range []int{9, 1, 10, 2} {
		hears(t, w, node, i+1, false)
	}
	checks(t, w, 5, 3, 5, 6, 7, 8)
	checks(t, w, 6, 9)
	silent(t, w, 3, 5, 6, 7, 8, 9)
	checks(t, w, 9, 1, 2, 10)
	for _, node := range []int{10, 7, 2} {
		hears(t, w, node, 10, true)
	}
	silent(t, w, 1, 3, 5, 6, 8, 9)
	timeouts(t, w, 4, 8, 4, 0, 4, 4, 8, 4, 4, 8)
	checks(t, w, 18)
	checks(t, w, 19, 2, 7, 10)
}

// 14.1, 14.2: itself is never silent, whenever it was heard, and has no timeout.
func TestItself(t *testing.T) {
	for self := 1; self <= 3; self++ {
		w := watch(t, 3, self, 0)
		others := slices.DeleteFunc([]int{1, 2, 3}, func(node int) bool { return node == self })
		want := []int{4, 4, 4}
		want[self-1] = 0
		checks(t, w, 5, others...)
		checks(t, w, 100)
		hears(t, w, self, 200, false)
		checks(t, w, api.MaxBig)
		hears(t, w, self, api.MaxBig, false)
		silent(t, w, others...)
		timeouts(t, w, want...)
	}
	alone := watch(t, 1, 1, 0)
	checks(t, alone, 1000)
	hears(t, alone, 1, 2000, false)
	silent(t, alone)
	timeouts(t, alone, 0)
}

// 14.1, 14.2: a nil watch.
func TestNil(t *testing.T) {
	var w *beat.Watch
	for _, n := range []int{-1, 0, 1, 2, 10, 11, api.MaxBig, math.MaxInt} {
		for _, now := range []int{-1, 0, 1, api.MaxBig, api.MaxBig + 1} {
			failsHeard(t, w, n, now)
			failsCheck(t, w, now)
		}
		if got, e := w.Timeout(n); got != 0 || e != api.ErrArg {
			t.Errorf("Timeout(%d): %d, %v", n, got, e)
		}
	}
	silent(t, w)
	if got := w.Now(); got != 0 {
		t.Errorf("Now: %d", got)
	}
}
