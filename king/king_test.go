package king_test

import (
	"math"
	"slices"
	"testing"

	"wardmote/api"
	"wardmote/king"
)

// 15.1: tables of each size, with each f, by each node, of both values; and what is none of these.
func TestNew(t *testing.T) {
	far := []int{math.MinInt, -1 << 32, 1 << 32, 1<<32 + 1, 1<<62 + 1, math.MaxInt/3 + 1, math.MaxInt/3*2 + 2, math.MaxInt}
	near := []int{-2, -1, 0, 1, 2, 3, 4, 5, 6, 7, 8, 9, 10, 11, 12, 16}
	all := append(near, far...)
	made := 0
	for _, n := range all {
		for _, f := range all {
			for _, self := range all {
				for _, value := range append([]int{-1, 0, 1, 2, 3}, far...) {
					x, e := king.New(n, f, self, value)
					if n < 1 || n > 10 || f < 0 || f > mostFail[n] || self < 1 || self > n || value < 0 || value > 1 {
						if x != nil || e != api.ErrArg {
							t.Fatalf("New(%d, %d, %d, %d): %v, %v", n, f, self, value, x, e)
						}
						continue
					}
					if e != api.OK {
						t.Fatalf("New(%d, %d, %d, %d): %v", n, f, self, value, e)
					}
					made++
					rounds(t, x, 0, 3*f+3)
					sends(t, x, value)
				}
			}
		}
	}
	if made != 2*(1+2+3+2*(4+5+6)+3*(7+8+9)+4*10) {
		t.Error(made)
	}
}

// 15.1: Round, Rounds, Done and Send ahead of, between and behind all rounds.
func TestRounds(t *testing.T) {
	tables(func(n, f int) {
		for value := range 2 {
			x := begin(t, n, f, n, value)
			for round := range 3 * (f + 1) {
				rounds(t, x, round, 3*(f+1))
				sends(t, x, value)
				hears(t, x, slices.Repeat([]int{value}, n)...)
			}
			rounds(t, x, 3*(f+1), 3*(f+1))
			done(t, x, value)
		}
	})
}

// 15.1: who is done hears nothing any more, not even too little or too much, and keeps its value.
func TestHearDone(t *testing.T) {
	tables(func(n, f int) {
		for value := range 2 {
			x := begin(t, n, f, 1, value)
			for range x.Rounds() {
				hears(t, x, slices.Repeat([]int{value}, n)...)
			}
			for _, length := range []int{n, 0, n - 1, n + 1, 1000} {
				failsHear(t, x, api.ErrState, slices.Repeat([]int{1 - value}, length)...)
				done(t, x, value)
				rounds(t, x, 3*(f+1), 3*(f+1))
			}
		}
	})
}

// 15.1: told of fewer or more than n numbers, in each round: nothing is gone through, and nothing of it is heard.
func TestHearArg(t *testing.T) {
	tables(func(n, f int) {
		x, p := begin(t, n, f, 1, 1), plain{n: n, f: f, value: 1}
		for round := range x.Rounds() {
			for _, length := range []int{0, n - 1, n + 1, 2 * n, 1000} {
				for _, number := range numbers {
					if length != n {
						failsHear(t, x, api.ErrArg, slices.Repeat([]int{number}, length)...)
					}
				}
			}
			if e := x.Hear(nil); e != api.ErrArg {
				t.Fatalf("Hear of none: %v", e)
			}
			rounds(t, x, round, 3*(f+1))
			sends(t, x, p.now())
			told := list(n-f, 0, f)
			p.told = append(p.told, told)
			hears(t, x, told...)
		}
		done(t, x, p.now())
	})
}

// 15.1: the first round: just n - f and one fewer that told 0, or told 1, whatever its value was.
func TestFirstEdges(t *testing.T) {
	tables(func(n, f int) {
		for value := range 2 {
			for _, number := range numbers {
				goes := func(want int, told ...int) {
					t.Helper()
					x := begin(t, n, f, n, value)
					hears(t, x, told...)
					sends(t, x, want)
				}
				rest := slices.Repeat([]int{number}, f)
				goes(0, append(list(n-f, 0, 0), rest...)...)
				goes(1, append(rest, list(0, n-f, 0)...)...)
				if number != 0 && n > 1 {
					goes(2, append(list(n-f-1, 0, 1), rest...)...)
					goes(2, append(list(n-f-1, 1, 0), rest...)...)
				}
				if number != 1 && n > 1 {
					goes(2, append(rest, list(0, n-f-1, 1)...)...)
					goes(2, append(rest, list(1, n-f-1, 0)...)...)
				}
				goes(2, append(list(0, 0, n-f), rest...)...)
			}
		}
	})
}

// 15.1: the second round, of 7 nodes, 2 of which fail: just 2 and just 3 that told 2, told 1, told 0, and more than 2 that
// told two of these.
func TestSecondEdges(t *testing.T) {
	for _, c := range []struct{ zeros, ones, twos, want int }{
		{2, 2, 3, 2}, {0, 2, 5, 2}, {2, 0, 5, 2}, {0, 0, 7, 2}, {1, 1, 5, 2},
		{2, 3, 2, 1}, {0, 3, 4, 1}, {1, 3, 3, 1}, {2, 5, 0, 1}, {0, 7, 0, 1}, {0, 4, 3, 1},
		{3, 2, 2, 0}, {3, 0, 4, 0}, {3, 1, 3, 0}, {4, 0, 3, 0}, {3, 4, 0, 0}, {4, 3, 0, 0}, {3, 3, 1, 0}, {7, 0, 0, 0},
	} {
		for _, first := range [][]int{list(5, 2, 0), list(2, 5, 0), list(4, 3, 0)} {
			x := begin(t, 7, 2, 3, 1)
			hears(t, x, first...)
			told := list(c.zeros, c.ones, c.twos)
			hears(t, x, told...)
			if got := x.Send(); got != c.want {
				t.Errorf("%v behind %v: %d", told, first, got)
			}
		}
	}
}

// 15.1: the third round, of 4 nodes, 1 of which fails: of a node whose value is 2, of one whose value 3 told, and of one
// whose value fewer told; by a king that tells each number.
func TestThirdEdges(t *testing.T) {
	for _, c := range []struct{ zeros, ones, twos, value, king0, king1 int }{
		{1, 1, 2, 2, 0, 1}, {0, 1, 3, 2, 0, 1}, {0, 0, 4, 2, 0, 1},
		{0, 3, 1, 1, 1, 1}, {1, 3, 0, 1, 1, 1}, {0, 4, 0, 1, 1, 1}, {0, 2, 2, 1, 0, 1}, {1, 2, 1, 1, 0, 1},
		{3, 1, 0, 0, 0, 0}, {3, 0, 1, 0, 0, 0}, {4, 0, 0, 0, 0, 0}, {2, 2, 0, 0, 0, 1}, {2, 0, 2, 0, 0, 1}, {2, 1, 1, 0, 0, 1},
	} {
		for self := 1; self <= 4; self++ {
			for _, number := range numbers {
				x := begin(t, 4, 1, self, 1)
				hears(t, x, 0, 1, 0, 1)
				hears(t, x, list(c.zeros, c.ones, c.twos)...)
				sends(t, x, c.value)
				want := c.king1
				if number == 0 {
					want = c.king0
				}
				hears(t, x, number, 1-want, 1-want, 1-want)
				sends(t, x, want)
			}
		}
	}
}

// 15.1: the king of a phase is the node of its number, in each phase, whoever hears it.
func TestKings(t *testing.T) {
	tables(func(n, f int) {
		for self := 1; self <= n; self++ {
			x := begin(t, n, f, self, 1)
			for phase := range f + 1 {
				hears(t, x, list(0, 0, n)...)
				sends(t, x, 2)
				hears(t, x, list(0, 0, n)...)
				sends(t, x, 2)
				told := slices.Repeat([]int{1 - phase%2}, n)
				told[phase] = phase % 2
				hears(t, x, told...)
				if phase < f {
					sends(t, x, phase%2)
				}
			}
			done(t, x, f%2)
		}
	})
}

// 15.1: all three rounds of the first phase, with all that can be told, but for the order; then another phase, where there
// is one.
func TestPhases(t *testing.T) {
	for _, table := range [][2]int{{1, 0}, {2, 0}, {3, 0}, {4, 0}, {4, 1}, {5, 1}, {7, 2}, {10, 3}} {
		n, f := table[0], table[1]
		lists(n, func(first []int) {
			lists(n, func(second []int) {
				for word := range 3 {
					third := slices.Repeat([]int{(word + 1) % 3}, n)
					third[0] = word
					p := plain{n: n, f: f, value: word % 2}
					x := begin(t, n, f, 1, word%2)
					for _, told := range [][]int{first, second, third, second, first, third} {
						if len(p.told) < x.Rounds() {
							sends(t, x, p.now())
							p.told = append(p.told, told)
							hears(t, x, told...)
						}
					}
					if len(p.told) == x.Rounds() {
						done(t, x, p.now())
					} else {
						sends(t, x, p.now())
					}
				}
			})
		})
	}
}

// 15.1: where a node tells a number that is no word, it is as if it told 2, whichever it is and in whichever round.
func TestNoWords(t *testing.T) {
	tables(func(n, f int) {
		for _, number := range noWords {
			for round := range 3 * (f + 1) {
				lists(n, func(told []int) {
					x, y := begin(t, n, f, 1, 0), begin(t, n, f, 1, 0)
					for range round {
						hears(t, x, list(n/2, 0, n-n/2)...)
						hears(t, y, list(n/2, 0, n-n/2)...)
					}
					slices.Reverse(told)
					hears(t, x, told...)
					for i, word := range told {
						if word == 2 {
							told[i] = number
						}
					}
					hears(t, y, told...)
					if *x != *y {
						t.Fatalf("%v of %d: %v, not %v", told, n, *y, *x)
					}
				})
			}
		}
	})
}

// 15.1: a nil node; and one that nobody made.
func TestNil(t *testing.T) {
	for _, x := range []*king.Node{nil, {}} {
		for range 2 {
			rounds(t, x, 0, 0)
			sends(t, x, 2)
			for _, told := range [][]int{nil, {}, {0}, {0, 0, 0, 0}, {3}} {
				failsHear(t, x, api.ErrState, told...)
			}
		}
	}
}
