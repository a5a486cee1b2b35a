package feld_test

import (
	"math/rand"
	"slices"
	"testing"

	"wardmote/api"
	"wardmote/feld"
)

// columns are sums of points, place by place and one by one.
func columns(l [][]api.Point) []api.Point {
	out := slices.Repeat([]api.Point{infinity}, len(l[0]))
	for _, c := range l {
		for i := range out {
			out[i] = added(out[i], c[i])
		}
	}
	return out
}

// 7.2: sums of one list, of some, and of some more or fewer than curve.Sum takes at once, or twice that.
func TestSum(t *testing.T) {
	source := rand.New(rand.NewSource(27))
	for count := 1; count <= api.MaxNodes; count++ {
		for _, many := range []int{1, 2, 3, 10, 61 + count, 125 + count%3} {
			var l [][]api.Point
			for range many {
				l = append(l, somePoints(source, count))
			}
			got, e := feld.Sum(l)
			answersList(t, "Sum", got, e, columns(l))
		}
	}
}

// 7.2: sums that meet: of the same points, of negatives, of the one at infinity.
func TestSumMeets(t *testing.T) {
	minus := timesG(lessOne(q))
	got, e := feld.Sum([][]api.Point{{g, g, infinity, infinity}, {g, minus, infinity, g}})
	answersList(t, "Sum", got, e, []api.Point{timesG(api.Num{2}), infinity, infinity, g})
	got, e = feld.Sum(slices.Repeat([][]api.Point{{g, infinity}}, 1000))
	answersList(t, "Sum", got, e, []api.Point{timesG(api.Num{1000}), infinity})
}

// 7.2: no list, one that is none, and unlike ones, ahead of all that is no point.
func TestSumRefuses(t *testing.T) {
	full := slices.Repeat([]api.Point{g}, api.MaxNodes)
	long := append(slices.Clone(full), g)
	wrong := api.Point{}
	for _, l := range [][][]api.Point{
		nil, {}, {nil}, {{}}, {nil, nil}, {{}, nil}, {long}, {long, long}, {slices.Repeat([]api.Point{wrong}, 11)},
		{{g}, {g, g}}, {{g, g}, {g}}, {{g}, {g}, {g, g}}, {{g, g}, {g, g}, {g}}, {full, full[1:]}, {full[1:], full},
		{{g}, nil}, {nil, {g}}, {{g}, {}, {g}}, {full, long}, {long, full},
		{{wrong}, {g, g}}, {{g}, {wrong, wrong}}, {{wrong}, nil}, {{g}, {wrong}, {g, g}}, {{wrong}, {wrong}, long},
		append(slices.Repeat([][]api.Point{{wrong}}, 100), nil),
	} {
		got, e := feld.Sum(l)
		failsList(t, "Sum", got, e, api.ErrArg)
	}
}

// 7.2: what is no point, in whichever list and wherever in it.
func TestSumCurve(t *testing.T) {
	for _, a := range strangers {
		for _, count := range []int{1, 2, api.MaxNodes} {
			for i := range 3 * count {
				l := make([][]api.Point, 3)
				for j := range l {
					l[j] = slices.Repeat([]api.Point{g}, count)
				}
				l[i/count][i%count] = a
				got, e := feld.Sum(l)
				failsList(t, "Sum", got, e, api.ErrCurve)
			}
		}
		for _, i := range []int{0, 62, 63, 64, 126, 199} {
			l := slices.Repeat([][]api.Point{{g, g}}, 200)
			l[i] = []api.Point{g, a}
			got, e := feld.Sum(l)
			failsList(t, "Sum of many", got, e, api.ErrCurve)
		}
	}
}
