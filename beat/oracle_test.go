package beat_test

import (
	"math"
	"slices"
	"testing"

	"wardmote/api"
	"wardmote/beat"
)

// noBigs are neither moments nor views, also such as are one mod 2^32.
var noBigs = []int{
	-1, -2, -1 << 31, -1 << 40, math.MinInt, api.MaxBig + 1, api.MaxBig + 2, 2 * api.MaxBig, 1 << 50, 1 << 62, math.MaxInt,
}

// noTables are how many nodes there may not be.
var noTables = []int{0, -1, -4, math.MinInt, 11, 12, 16, 1 << 32, 1<<32 + 3, math.MaxInt}

// noNodes are none of n.
func noNodes(n int) []int {
	return []int{0, -1, -n, math.MinInt, n + 1, n + 2, 2 * n, 1 << 32, 1<<32 + 1, math.MaxInt}
}

// plain is a watch that keeps all that it was told, and works out from that what is so.
type plain struct {
	n, self int
	calls   []call
}

// call is one that went well: a node that was heard, or 0 of a Check.
type call struct{ node, now int }

// state is when a node was heard last, its timeout, and whether it is silent, behind all calls; and whether it is newly so
// by the last one.
func (p *plain) state(node, start int) (heard, timeout int, silent, newly bool) {
	heard, timeout = start, 4
	for _, c := range p.calls {
		newly = false
		switch {
		case c.node == node && silent:
			heard, silent, timeout = c.now, false, []int{4: 8, 8: 16, 16: 32, 32: 64, 64: 64}[timeout]
		case c.node == node:
			heard = c.now
		case c.node == 0 && !silent && c.now > heard+timeout:
			silent, newly = true, true
		}
	}
	return heard, timeout, silent, newly
}

// all are the nodes, but itself, that are silent, or newly so, rising.
func (p *plain) all(start int, onlyNew bool) []int {
	var out []int
	for node := 1; node <= p.n; node++ {
		if _, _, silent, newly := p.state(node, start); node != p.self && (newly || silent && !onlyNew) {
			out = append(out, node)
		}
	}
	return out
}

// watch is a watch.
func watch(t *testing.T, n, self, now int) *beat.Watch {
	t.Helper()
	w, e := beat.New(n, self, now)
	if w == nil || e != api.OK {
		t.Fatalf("New(%d, %d, %d): %v, %v", n, self, now, w, e)
	}
	return w
}

// hears looks for whether a node was silent.
func hears(t *testing.T, w *beat.Watch, node, now int, want bool) {
	t.Helper()
	if was, e := w.Heard(node, now); was != want || e != api.OK {
		t.Fatalf("Heard(%d, %d): %v, %v, not %v", node, now, was, e, want)
	}
	if got := w.Now(); got != now {
		t.Fatalf("Now: %d, not %d", got, now)
	}
}

// failsHeard looks for what is wrong with a node, or with a moment.
func failsHeard(t *testing.T, w *beat.Watch, node, now int) {
	t.Helper()
	if was, e := w.Heard(node, now); was || e != api.ErrArg {
		t.Fatalf("Heard(%d, %d): %v, %v", node, now, was, e)
	}
}

// checks looks for the nodes that are newly silent.
func checks(t *testing.T, w *beat.Watch, now int, want ...int) {
	t.Helper()
	if got, e := w.Check(now); !slices.Equal(got, want) || e != api.OK {
		t.Fatalf("Check(%d): %v, %v, not %v", now, got, e, want)
	}
	if got := w.Now(); got != now {
		t.Fatalf("Now: %d, not %d", got, now)
	}
}

// failsCheck looks for a moment that may not be.
func failsCheck(t *testing.T, w *beat.Watch, now int) {
	t.Helper()
	if got, e := w.Check(now); len(got) != 0 || e != api.ErrArg {
		t.Fatalf("Check(%d): %v, %v", now, got, e)
	}
}

// silent looks for all that are silent.
func silent(t *testing.T, w *beat.Watch, want ...int) {
	t.Helper()
	if got := w.Silent(); !slices.Equal(got, want) {
		t.Fatalf("Silent: %v, not %v", got, want)
	}
}

// timeouts looks for the timeouts of the nodes from 1 on.
func timeouts(t *testing.T, w *beat.Watch, want ...int) {
	t.Helper()
	for i, timeout := range want {
		if got, e := w.Timeout(i + 1); got != timeout || e != api.OK {
			t.Fatalf("Timeout(%d): %d, %v, not %d", i+1, got, e, timeout)
		}
	}
	for _, none := range noNodes(len(want)) {
		if got, e := w.Timeout(none); got != 0 || e != api.ErrArg {
			t.Fatalf("Timeout(%d): %d, %v", none, got, e)
		}
	}
}

// turn looks for whose turn a view is.
func turn(t *testing.T, n, view, want int) {
	t.Helper()
	if got, e := beat.Turn(n, view); got != want || e != api.OK {
		t.Fatalf("Turn(%d, %d): %d, %v, not %d", n, view, got, e, want)
	}
}

// next looks for the next view.
func next(t *testing.T, n, view, want int, silent ...int) {
	t.Helper()
	if got, e := beat.Next(n, view, silent); got != want || e != api.OK {
		t.Fatalf("Next(%d, %d, %v): %d, %v, not %d", n, view, silent, got, e, want)
	}
}

// failsNext looks for what is wrong with a view, or for none.
func failsNext(t *testing.T, want api.Errno, n, view int, silent ...int) {
	t.Helper()
	if got, e := beat.Next(n, view, silent); got != 0 || e != want {
		t.Fatalf("Next(%d, %d, %v): %d, %v, not %v", n, view, silent, got, e, want)
	}
}
