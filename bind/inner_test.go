package bind

import (
	"math/rand"
	"testing"

	"wardmote/api"
	"wardmote/curve"
)

// times is so many times G, also below 0.
func times(n int) api.Point {
	if n < 0 {
		out, _ := curve.Neg(times(-n))
		return out
	}
	out, _ := curve.Mul(api.Num{uint64(n)}, curve.G())
	return out
}

// 18.2: ErrCurve, if the sum of all nonces is the point at infinity: with factors that are made up, as no list is known
// whose own ones do so.
func TestSumAtInfinity(t *testing.T) {
	for _, c := range []struct {
		l       []Pair
		factors [3]uint64
		at      bool
	}{
		{[]Pair{{1, times(-6), times(2)}}, [3]uint64{3}, true},
		{[]Pair{{1, times(-6), times(2)}}, [3]uint64{4}, false},
		{[]Pair{{1, times(1), times(1)}, {2, times(-5), times(2)}}, [3]uint64{2, 1}, true},
		{[]Pair{{1, times(1), times(1)}, {2, times(-5), times(2)}}, [3]uint64{1, 2}, false},
		{[]Pair{{1, times(1), times(1)}, {2, times(2), times(7)}, {3, times(-3), times(9)}}, [3]uint64{}, true},
		{[]Pair{{1, times(4), times(-4)}, {2, times(3), times(-3)}, {3, times(5), times(-5)}}, [3]uint64{1, 1, 1}, true},
		{[]Pair{{1, times(4), times(-4)}, {2, times(3), times(-3)}, {3, times(5), times(-5)}}, [3]uint64{1, 1, 2}, false},
	} {
		got, e := group(func(node int) api.Num { return api.Num{c.factors[node-1]} }, c.l)
		if c.at && (got != (api.Point{}) || e != api.ErrCurve) || !c.at && (got.Inf || e != api.OK) {
			t.Errorf("%v: %v, %v", c.factors, got, e)
		}
	}
}

// 18.2: with any factors, 0 among them, it is the sum of D and factor times E.
func TestSumOfFactors(t *testing.T) {
	source := rand.New(rand.NewSource(5))
	for range 60 {
		var l []Pair
		var factors [api.MaxNodes]uint64
		all := 1000
		for i := range 1 + source.Intn(api.MaxNodes) {
			d, e, factor := 1+source.Intn(50), 1+source.Intn(50), source.Intn(5)
			l, factors[i] = append(l, Pair{i + 1, times(d), times(e)}), uint64(factor)
			all += d + factor*e
		}
		l[0].D, _ = curve.Add(l[0].D, times(1000))
		got, e := group(func(node int) api.Num { return api.Num{factors[node-1]} }, l)
		if got != times(all) || e != api.OK {
			t.Fatalf("%v: %v, %v, not %d times G", factors, got, e, all)
		}
	}
}

// 18.1: a list's points are gone through in their order, as far as one wants.
func TestPoints(t *testing.T) {
	l := []Pair{{1, times(1), times(2)}, {2, times(3), times(4)}, {5, times(5), times(6)}}
	for stop := 1; stop <= 7; stop++ {
		count := 0
		for p := range points(l) {
			count++
			if p != times(count) {
				t.Errorf("point %d: %v", count, p)
			}
			if count == stop {
				break
			}
		}
		if count != min(stop, 6) {
			t.Errorf("%d points, not %d", count, stop)
		}
	}
}
