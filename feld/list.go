package feld

import (
	"slices"

	"wardmote/api"
	"wardmote/curve"
	"wardmote/field"
)

// codeLen is how many bytes curve.Encode makes of a point.
const codeLen = 33

// maxPairs is how many points curve.Sum takes at once.
const maxPairs = 64

// each is what a function makes of each thing of a list; or nothing, and the first error that it tells.
func each[T, U any](l []T, of func(a T) (U, api.Errno)) ([]U, api.Errno) {
	out := make([]U, len(l))
	for i, a := range l {
		made, e := of(a)
		if e != api.OK {
			return nil, e
		}
		out[i] = made
	}
	return out, api.OK
}

// places are the numbers from 0 on, so many.
func places(count int) []int {
	out := make([]int, count)
	for i := range out {
		out[i] = i
	}
	return out
}

// isCount tells whether commitments may be so many.
func isCount(n int) bool { return n >= 1 && n <= api.MaxNodes }

// areAlike tells whether there are lists, and all have as many points as commitments may be, and the same number.
func areAlike(l [][]api.Point) bool {
	for _, c := range l {
		if !isCount(len(c)) || len(c) != len(l[0]) {
			return false
		}
	}
	return len(l) > 0
}

// powers are those of x from the 0th on, so many; the 0th of 0, too, is 1.
func powers(x, count int) []api.Num {
	scalars := field.Scalars()
	out := make([]api.Num, count)
	out[0] = api.Num{1}
	for i := 1; i < count; i++ {
		// Powers and x are scalars, of which the field tells no error.
		out[i], _ = scalars.Mul(out[i-1], api.Num{uint64(x)})
	}
	return out
}

// sumAt is the sum of all lists' points at a place. Many of them are summed at once, as curve.Sum reckons one inverse
// for all, and curve.Add one for each.
func sumAt(l [][]api.Point, place int) (api.Point, api.Errno) {
	ones := slices.Repeat([]api.Num{{1}}, maxPairs)
	out := api.Point{Inf: true}
	for lists := range slices.Chunk(l, maxPairs-1) {
		points := []api.Point{out}
		for _, c := range lists {
			points = append(points, c[place])
		}
		var e api.Errno
		if out, e = curve.Sum(ones[:len(points)], points); e != api.OK {
			return api.Point{}, e
		}
	}
	return out, api.OK
}
