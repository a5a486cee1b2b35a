package feld_test

import (
	"math/big"
	"math/rand"
	"slices"
	"testing"

	"wardmote/api"
	"wardmote/curve"
	"wardmote/field"
	"wardmote/limb"
)

// What commitments are: numbers times G, with the numbers reckoned in math/big, or points that are summed one by one.

const ones = ^uint64(0)

var (
	most     = api.Num{ones, ones, ones, ones}
	p        = field.Base().Modulus()
	q        = field.Scalars().Modulus()
	bigQ     = bigOf(q)
	infinity = api.Point{Inf: true}
	g        = curve.G()

	// points are the one at infinity, multiples of G, and ones of which nobody knows that.
	points = []api.Point{
		infinity, g, timesG(api.Num{2}), timesG(lessOne(q)), withX(1), withX(2), withX(3), withX(4),
	}

	// greats are no scalars: Q, the numbers next to it, P and the greatest.
	greats = []api.Num{q, more(q, api.Num{1}), p, {3: ones, 2: ones}, most}

	// strangers are no points: beside the curve, with a coordinate from P on, infinite with a coordinate.
	strangers = []api.Point{
		{}, {X: g.X}, {X: g.Y, Y: g.X}, {X: g.X, Y: more(g.Y, api.Num{1})}, {X: more(withX(1).X, p), Y: withX(1).Y},
		{X: g.X, Y: most}, {X: g.X, Y: g.Y, Inf: true}, {X: p, Inf: true}, {Y: api.Num{1}, Inf: true},
	}
)

func more(a, b api.Num) api.Num {
	out, _ := limb.Add(a, b)
	return out
}

func less(a, b api.Num) api.Num {
	out, _ := limb.Sub(a, b)
	return out
}

func lessOne(a api.Num) api.Num { return less(a, api.Num{1}) }

func bigOf(a api.Num) *big.Int { return new(big.Int).SetBytes([]byte(limb.Bytes(a))) }

// scalarOf is a number mod Q.
func scalarOf(a *big.Int) api.Num {
	out, _ := limb.FromBytes(string(new(big.Int).Mod(a, bigQ).FillBytes(make([]byte, 32))))
	return out
}

// timesG is a number times G.
func timesG(a api.Num) api.Point {
	out, _ := curve.Mul(a, g)
	return out
}

// withX is a point of a small X, of which nobody knows which multiple of G it is.
func withX(x uint64) api.Point {
	out, _ := curve.Decode("\x02" + limb.Bytes(api.Num{x}))
	return out
}

// drawn is a scalar that is often at an end.
func drawn(source *rand.Rand) api.Num {
	edges := []api.Num{{}, {1}, lessOne(q)}
	if i := source.Intn(3 * len(edges)); i < len(edges) {
		return edges[i]
	}
	return scalarOf(new(big.Int).Rand(source, bigQ))
}

// polynomial has that many coefficients.
func polynomial(source *rand.Rand, count int) []api.Num {
	var out []api.Num
	for range count {
		out = append(out, drawn(source))
	}
	return out
}

// value is a polynomial's at x: the sum of each coefficient times a power.
func value(p []api.Num, x int) api.Num {
	out := new(big.Int)
	for i, a := range p {
		power := new(big.Int).Exp(big.NewInt(int64(x)), big.NewInt(int64(i)), nil)
		out.Add(out, power.Mul(power, bigOf(a)))
	}
	return scalarOf(out)
}

// sumOf are polynomials' sums, coefficient by coefficient.
func sumOf(l [][]api.Num) []api.Num {
	var out []api.Num
	for i := range l[0] {
		sum := new(big.Int)
		for _, p := range l {
			sum.Add(sum, bigOf(p[i]))
		}
		out = append(out, scalarOf(sum))
	}
	return out
}

// commitments are a polynomial's.
func commitments(p []api.Num) []api.Point {
	var out []api.Point
	for _, a := range p {
		out = append(out, timesG(a))
	}
	return out
}

// somePoints are that many of points.
func somePoints(source *rand.Rand, count int) []api.Point {
	var out []api.Point
	for range count {
		out = append(out, points[source.Intn(len(points))])
	}
	return out
}

// added is a sum of points, one by one.
func added(points ...api.Point) api.Point {
	out := infinity
	for _, a := range points {
		out, _ = curve.Add(out, a)
	}
	return out
}

// climbed is what points tell of x, from the highest down: x times what there is, one by one, and the next point.
func climbed(c []api.Point, x int) api.Point {
	out := infinity
	for _, a := range slices.Backward(c) {
		out = added(append(slices.Repeat([]api.Point{out}, x), a)...)
	}
	return out
}

func answers(t *testing.T, what string, got api.Point, e api.Errno, want api.Point) {
	t.Helper()
	if e != api.OK || got != want {
		t.Fatalf("%s: %v, %v, not %v", what, got, e, want)
	}
}

// fails looks for the error, and for nothing beside it (R4).
func fails(t *testing.T, what string, got api.Point, e, want api.Errno) {
	t.Helper()
	if e != want || got != (api.Point{}) {
		t.Errorf("%s: %v, %v, not %v", what, got, e, want)
	}
}

func answersList(t *testing.T, what string, got []api.Point, e api.Errno, want []api.Point) {
	t.Helper()
	if e != api.OK || !slices.Equal(got, want) {
		t.Fatalf("%s: %v, %v, not %v", what, got, e, want)
	}
}

func failsList(t *testing.T, what string, got []api.Point, e, want api.Errno) {
	t.Helper()
	if e != want || len(got) != 0 {
		t.Errorf("%s: %v, %v, not %v", what, got, e, want)
	}
}

func tells(t *testing.T, what string, e, want api.Errno) {
	t.Helper()
	if e != want {
		t.Errorf("%s: %v, not %v", what, e, want)
	}
}
