package feld_test

import (
	"math"
	"math/rand"
	"slices"
	"testing"

	"wardmote/api"
	"wardmote/feld"
)

// noPlaces are an x that is not from 0 to MaxNodes.
var noPlaces = []int{-1, -2, -10, math.MinInt, api.MaxNodes + 1, 12, 256, 1 << 32, 1<<32 + 1, api.MaxBig, math.MaxInt}

// noLists are no commitments, as they are none or too many.
func noLists(a api.Point) [][]api.Point {
	return [][]api.Point{
		nil, {}, slices.Repeat([]api.Point{a}, api.MaxNodes+1), slices.Repeat([]api.Point{a}, 64),
		slices.Repeat([]api.Point{a}, 65), slices.Repeat([]api.Point{a}, 257),
	}
}

// 7.1: the document's example.
func TestExample(t *testing.T) {
	c, e := feld.Commit([]api.Num{{5}, {3}})
	answersList(t, "Commit", c, e, []api.Point{added(g, g, g, g, g), added(g, g, g)})
	got, e := feld.Value(c, 2)
	answers(t, "Value", got, e, added(slices.Repeat([]api.Point{g}, 11)...))
	tells(t, "Check", feld.Check(c, 2, api.Num{11}), api.OK)
	tells(t, "Check", feld.Check(c, 2, api.Num{12}), api.ErrShare)
}

// 7.1: commitments of 1 to MaxNodes coefficients, at the ends and drawn.
func TestCommit(t *testing.T) {
	source := rand.New(rand.NewSource(24))
	for count := 1; count <= api.MaxNodes; count++ {
		for range 5 {
			p := polynomial(source, count)
			got, e := feld.Commit(p)
			answersList(t, "Commit", got, e, commitments(p))
		}
	}
	got, e := feld.Commit([]api.Num{{}, {1}, lessOne(q)})
	answersList(t, "Commit", got, e, []api.Point{infinity, g, {X: g.X, Y: less(p, g.Y)}})
}

// 7.1: no coefficient, or more than MaxNodes, ahead of what is no scalar; and that, wherever it stands.
func TestCommitRefuses(t *testing.T) {
	for _, a := range []api.Num{{}, {1}, lessOne(q), q, most} {
		for _, count := range []int{0, api.MaxNodes + 1, 64, 65, 1000} {
			got, e := feld.Commit(slices.Repeat([]api.Num{a}, count))
			failsList(t, "Commit", got, e, api.ErrArg)
		}
	}
	got, e := feld.Commit(nil)
	failsList(t, "Commit of nil", got, e, api.ErrArg)
	for _, a := range greats {
		for count := 1; count <= api.MaxNodes; count++ {
			for i := range count {
				wrong := make([]api.Num, count)
				wrong[i] = a
				got, e := feld.Commit(wrong)
				failsList(t, "Commit", got, e, api.ErrRange)
			}
		}
	}
}

// 7.1: values of commitments are those of the polynomial, times G, at each place; at 0 the first point.
func TestValueOfPolynomials(t *testing.T) {
	source := rand.New(rand.NewSource(25))
	for count := 1; count <= api.MaxNodes; count++ {
		p := polynomial(source, count)
		c := commitments(p)
		for x := range api.MaxNodes + 1 {
			got, e := feld.Value(c, x)
			answers(t, "Value", got, e, timesG(value(p, x)))
		}
		got, e := feld.Value(c, 0)
		answers(t, "Value at 0", got, e, c[0])
		got, e = feld.Value(c, 1)
		answers(t, "Value at 1", got, e, added(c...))
	}
}

// 7.1: values of any points, also such of which nobody knows a polynomial.
func TestValueOfPoints(t *testing.T) {
	source := rand.New(rand.NewSource(26))
	for count := 1; count <= api.MaxNodes; count++ {
		for x := range api.MaxNodes + 1 {
			c := somePoints(source, count)
			got, e := feld.Value(c, x)
			answers(t, "Value", got, e, climbed(c, x))
		}
		none := slices.Repeat([]api.Point{infinity}, count)
		for _, x := range []int{0, 1, api.MaxNodes} {
			got, e := feld.Value(none, x)
			answers(t, "Value of the one at infinity", got, e, infinity)
		}
		// The highest power alone.
		none[count-1] = g
		got, e := feld.Value(none, api.MaxNodes)
		answers(t, "Value of the highest", got, e, timesG(api.Num{uint64(math.Pow10(count - 1))}))
	}
}

// 7.1: lists of no point and of too many, and an x that is none, ahead of what is no point.
func TestValueArguments(t *testing.T) {
	for _, a := range append([]api.Point{g, infinity}, strangers...) {
		for _, c := range noLists(a) {
			for _, x := range append([]int{0, 1, api.MaxNodes}, noPlaces...) {
				got, e := feld.Value(c, x)
				fails(t, "Value of a list", got, e, api.ErrArg)
				for _, s := range []api.Num{{}, {1}, q, most} {
					tells(t, "Check of a list", feld.Check(c, x, s), api.ErrArg)
				}
			}
		}
		for _, c := range [][]api.Point{{a}, {g, a}, slices.Repeat([]api.Point{a}, api.MaxNodes)} {
			for _, x := range noPlaces {
				got, e := feld.Value(c, x)
				fails(t, "Value at a place", got, e, api.ErrArg)
				for _, s := range []api.Num{{}, {1}, q, most} {
					tells(t, "Check at a place", feld.Check(c, x, s), api.ErrArg)
				}
			}
		}
	}
}

// 7.1: what is no point, wherever it stands, also where its power of x is 0; ahead of a share that is no scalar.
func TestValueCurve(t *testing.T) {
	for _, a := range strangers {
		for count := 1; count <= api.MaxNodes; count++ {
			for i := range count {
				c := slices.Repeat([]api.Point{g}, count)
				c[i] = a
				for _, x := range []int{0, 1, api.MaxNodes} {
					got, e := feld.Value(c, x)
					fails(t, "Value", got, e, api.ErrCurve)
					for _, s := range []api.Num{{}, {1}, q, most} {
						tells(t, "Check", feld.Check(c, x, s), api.ErrCurve)
					}
				}
			}
		}
	}
}

// 7.1: a share that is no scalar, also if it is, mod Q, the value.
func TestCheckRange(t *testing.T) {
	for _, a := range greats {
		for _, x := range []int{0, 1, api.MaxNodes} {
			tells(t, "Check", feld.Check([]api.Point{g, withX(1)}, x, a), api.ErrRange)
		}
	}
	tells(t, "Check of Q", feld.Check([]api.Point{infinity}, 1, q), api.ErrRange)
	tells(t, "Check of Q + 1", feld.Check([]api.Point{g}, 1, more(q, api.Num{1})), api.ErrRange)
	tells(t, "Check of 0", feld.Check([]api.Point{infinity}, 1, api.Num{}), api.OK)
	tells(t, "Check of 1", feld.Check([]api.Point{g}, 1, api.Num{1}), api.OK)
	tells(t, "Check of Q - 1", feld.Check([]api.Point{timesG(lessOne(q))}, 1, lessOne(q)), api.OK)
	tells(t, "Check of Q - 1", feld.Check([]api.Point{g}, 1, lessOne(q)), api.ErrShare)
}
