package beat_test

import (
	"math/rand"
	"slices"
	"testing"

	"wardmote/api"
	"wardmote/beat"
)

// likePlain looks for what a watch has.
func likePlain(t *testing.T, w *beat.Watch, p *plain, start int) {
	t.Helper()
	silent(t, w, p.all(start, false)...)
	want := make([]int, p.n)
	for i := range want {
		if i+1 != p.self {
			_, want[i], _, _ = p.state(i+1, start)
		}
	}
	timeouts(t, w, want...)
}

// 14.1, 14.2: calls in whichever order: a watch tells what follows from all that it was told.
func TestScripts(t *testing.T) {
	most := 0
	for seed := range int64(150) {
		source := rand.New(rand.NewSource(seed))
		p := &plain{n: 1 + source.Intn(10)}
		p.self = 1 + source.Intn(p.n)
		start := source.Intn(50)
		now, w := start, watch(t, p.n, p.self, start)
		for range 150 {
			now += source.Intn(1 + []int{1, 3, 10, 40}[source.Intn(4)])
			if source.Intn(3) > 0 {
				p.calls = append(p.calls, call{0, now})
				checks(t, w, now, p.all(start, true)...)
			} else {
				node := 1 + source.Intn(p.n)
				_, _, was, _ := p.state(node, start)
				p.calls = append(p.calls, call{node, now})
				hears(t, w, node, now, was && node != p.self)
			}
			likePlain(t, w, p, start)
		}
		for node := 1; node <= p.n; node++ {
			timeout, _ := w.Timeout(node)
			most = max(most, timeout)
		}
	}
	if most != beat.Most {
		t.Errorf("no timeout above %d", most)
	}
}

// 14.4: a node that is heard at least every Most moments is told silent no more than five times, however often is looked.
func TestFiveTimes(t *testing.T) {
	seen := 0
	for seed := range int64(200) {
		source := rand.New(rand.NewSource(seed))
		w, now, told := watch(t, 2, 2, 0), 0, 0
		for range 60 {
			gap := 1 + source.Intn(beat.Most)
			if seed%4 == 0 {
				gap = beat.Most
			}
			for step := 1; step <= gap; step++ {
				if step == gap || source.Intn(3) > 0 {
					late, _ := w.Check(now + step)
					told += len(late)
				}
			}
			now += gap
			w.Heard(1, now)
		}
		if told > 5 {
			t.Fatalf("told silent %d times", told)
		}
		seen = max(seen, told)
	}
	if seen < 4 {
		t.Errorf("told silent no more than %d times", seen)
	}
}

// P1: whatever is called, in whichever order: a node is silent only where a Check told it, and its now goes on alone.
func FuzzCalls(f *testing.F) {
	f.Add(3, 1, []byte{0, 5, 2, 1, 0, 9})
	f.Add(10, 10, []byte{1, 0, 9, 200, 0, 255, 3, 3})
	f.Add(0, 0, []byte{1, 1})
	f.Fuzz(func(t *testing.T, n, self int, calls []byte) {
		w, e := beat.New(n, self, 0)
		if (e == api.OK) != (n >= 1 && n <= 10 && self >= 1 && self <= n) || (w == nil) != (e != api.OK) {
			t.Fatalf("New(%d, %d): %v, %v", n, self, w, e)
		}
		var quiet []int
		for ; len(calls) >= 2; calls = calls[2:] {
			node, now := int(calls[0])-1, w.Now()+int(calls[1])-2
			if node < 0 {
				late, _ := w.Check(now)
				quiet = append(quiet, late...)
			} else if was, _ := w.Heard(node, now); was {
				quiet = slices.DeleteFunc(quiet, func(other int) bool { return other == node })
			}
			slices.Sort(quiet)
			silent(t, w, quiet...)
		}
	})
}

// R3, R6: lists that were told are nobody's else, spare room too; the same are told again.
func TestListsAreNew(t *testing.T) {
	w := watch(t, 10, 1, 0)
	late, _ := w.Check(5)
	for range 2 {
		for _, list := range [][]int{late, w.Silent()} {
			for i := range list[:cap(list)] {
				list[:cap(list)][i] = 1
			}
		}
		silent(t, w, 2, 3, 4, 5, 6, 7, 8, 9, 10)
	}
}
