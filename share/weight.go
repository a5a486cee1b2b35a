package share

import (
	"wardmote/api"
	"wardmote/field"
)

// A reckoner works with numbers that are known to be scalars, of which the field tells no error.
type reckoner struct {
	scalars *field.Field
}

func newReckoner() reckoner { return reckoner{field.Scalars()} }

func (r reckoner) plus(a, b api.Num) api.Num {
	out, _ := r.scalars.Add(a, b)
	return out
}

func (r reckoner) times(a, b api.Num) api.Num {
	out, _ := r.scalars.Mul(a, b)
	return out
}

// scalar is a number that is not below 0.
func scalar(n int) api.Num { return api.Num{uint64(n)} }

// weight is the value at x of the polynomial that is 1 at the i'th node, and 0 at all others.
func (r reckoner) weight(nodes []int, i int, x api.Num) api.Num {
	others := r.othersNegative(nodes, i)
	top := gaps(r.plus, r.times, x, others)
	bottom := gaps(r.plus, r.times, scalar(nodes[i]), others)
	// No two nodes are the same, so that no gap between them is 0.
	inverse, _ := r.scalars.Inv(bottom)
	return r.times(top, inverse)
}

// othersNegative are the negatives of all nodes' numbers but the i'th one's.
func (r reckoner) othersNegative(nodes []int, i int) []api.Num {
	var out []api.Num
	for j, node := range nodes {
		if j != i {
			negative, _ := r.scalars.Neg(scalar(node))
			out = append(out, negative)
		}
	}
	return out
}

// gaps is the product of x's sums with each of some numbers: their negatives' gaps to x.
func gaps(plus, times func(a, b api.Num) api.Num, x api.Num, numbers []api.Num) api.Num {
	out := api.Num{1}
	for _, a := range numbers {
		out = times(out, plus(x, a))
	}
	return out
}
