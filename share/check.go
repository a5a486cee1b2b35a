package share

import (
	"wardmote/api"
	"wardmote/field"
)

// isPolynomial tells whether there are as many coefficients as one has; what they are is another error.
func isPolynomial(p []api.Num) bool { return len(p) >= 1 && len(p) <= api.MaxNodes }

// areAlike tells whether there are polynomials, and all have as many coefficients.
func areAlike(l [][]api.Num) bool {
	for _, p := range l {
		if !isPolynomial(p) || len(p) != len(l[0]) {
			return false
		}
	}
	return len(l) > 0
}

// areNodes tells whether there are nodes, and no two are the same (so there are never more than MaxNodes).
func areNodes(nodes []int) bool {
	var seen [api.MaxNodes + 1]bool
	for _, node := range nodes {
		if node < 1 || node > api.MaxNodes || seen[node] {
			return false
		}
		seen[node] = true
	}
	return len(nodes) > 0
}

// check tells whether numbers are scalars.
func check(numbers ...api.Num) api.Errno {
	scalars := field.Scalars()
	for _, a := range numbers {
		if e := scalars.Check(a); e != api.OK {
			return e
		}
	}
	return api.OK
}
