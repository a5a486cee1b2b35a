package king_test

import (
	"math"
	"slices"
	"testing"

	"wardmote/api"
	"wardmote/king"
)

// mostFail is by n the greatest f with 3 f < n.
var mostFail = [...]int{1: 0, 2: 0, 3: 0, 4: 1, 5: 1, 6: 1, 7: 2, 8: 2, 9: 2, 10: 3}

// noWords are no words, also such as are one mod 2^8, 2^32.
var noWords = []int{
	3, -1, 4, -2, -3, 256, 257, 1 << 31, 1 << 32, 1<<32 + 1, 1<<32 + 2, -1 << 32, 1 - 1<<32, math.MinInt, math.MinInt + 1,
	math.MaxInt, math.MaxInt - 1,
}

// numbers are all that a node may be told: words, and what is none.
var numbers = append([]int{0, 1, 2}, noWords...)

// plain is a node that keeps all that it was told, and works out from that what it has.
type plain struct {
	n, f, value int
	told        [][]int
}

// tellers is how many told a word in a round.
func (p *plain) tellers(round, word int) int {
	count := 0
	for _, number := range p.told[round] {
		if number == word || word == 2 && !slices.Contains([]int{0, 1, 2}, number) {
			count++
		}
	}
	return count
}

// now is its value behind all that it was told.
func (p *plain) now() int {
	value := p.value
	for round, told := range p.told {
		switch round % 3 {
		case 0:
			value = 2
			for _, word := range []int{0, 1} {
				if p.tellers(round, word) >= p.n-p.f {
					value = word
				}
			}
		case 1:
			for _, word := range []int{2, 1, 0} {
				if p.tellers(round, word) > p.f {
					value = word
				}
			}
		case 2:
			if value == 2 || p.tellers(round-1, value) < p.n-p.f {
				value = 1
				if told[(round-2)/3] == 0 {
					value = 0
				}
			}
		}
	}
	return value
}

// tables goes through all tables.
func tables(do func(n, f int)) {
	for n := 1; n <= 10; n++ {
		for f := range mostFail[n] + 1 {
			do(n, f)
		}
	}
}

// begin is a node ahead of its first round.
func begin(t *testing.T, n, f, self, value int) *king.Node {
	t.Helper()
	x, e := king.New(n, f, self, value)
	if x == nil || e != api.OK {
		t.Fatalf("New(%d, %d, %d, %d): %v, %v", n, f, self, value, x, e)
	}
	return x
}

// hears has a node go through a round.
func hears(t *testing.T, x *king.Node, told ...int) {
	t.Helper()
	if e := x.Hear(told); e != api.OK {
		t.Fatalf("Hear(%v): %v", told, e)
	}
}

// failsHear looks for why a node goes through no round.
func failsHear(t *testing.T, x *king.Node, want api.Errno, told ...int) {
	t.Helper()
	if e := x.Hear(told); e != want {
		t.Fatalf("Hear(%v): %v, not %v", told, e, want)
	}
}

// sends looks for what a node sends, while it is not done.
func sends(t *testing.T, x *king.Node, want int) {
	t.Helper()
	if got := x.Send(); got != want {
		t.Fatalf("Send: %d, not %d", got, want)
	}
	notDone(t, x)
}

// notDone looks for whether a node tells no value.
func notDone(t *testing.T, x *king.Node) {
	t.Helper()
	if got, is := x.Done(); got != 0 || is {
		t.Fatalf("Done: %d, %v", got, is)
	}
}

// done looks for the value of a node that is done.
func done(t *testing.T, x *king.Node, want int) {
	t.Helper()
	if got, is := x.Done(); got != want || !is {
		t.Fatalf("Done: %d, %v, not %d", got, is, want)
	}
	if got := x.Send(); got != 2 {
		t.Fatalf("Send: %d", got)
	}
}

// rounds looks for how many rounds a node went through, of how many.
func rounds(t *testing.T, x *king.Node, want, all int) {
	t.Helper()
	if got := x.Round(); got != want {
		t.Fatalf("Round: %d, not %d", got, want)
	}
	if got := x.Rounds(); got != all {
		t.Fatalf("Rounds: %d, not %d", got, all)
	}
}

// list is so many 0, 1 and 2.
func list(zeros, ones, twos int) []int {
	return slices.Concat(slices.Repeat([]int{0}, zeros), slices.Repeat([]int{1}, ones), slices.Repeat([]int{2}, twos))
}

// lists goes through all lists of n words, but for their order.
func lists(n int, do func(told []int)) {
	for zeros := range n + 1 {
		for ones := range n - zeros + 1 {
			do(list(zeros, ones, n-zeros-ones))
		}
	}
}
