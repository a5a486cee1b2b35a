package share_test

import (
	"math/big"
	"math/rand"

	"wardmote/api"
	"wardmote/field"
	"wardmote/limb"
)

// What polynomials and their values are, reckoned in math/big.

const ones = ^uint64(0)

var (
	most = api.Num{ones, ones, ones, ones}
	q    = field.Scalars().Modulus()
	bigQ = bigOf(q)

	// strangers are the numbers next to the scalars, P and the greatest.
	strangers = []api.Num{q, moreOne(q), field.Base().Modulus(), {3: ones, 2: ones}, most}
)

func lessOne(a api.Num) api.Num {
	out, _ := limb.Sub(a, api.Num{1})
	return out
}

func moreOne(a api.Num) api.Num {
	out, _ := limb.Add(a, api.Num{1})
	return out
}

func bigOf(a api.Num) *big.Int {
	out := new(big.Int)
	for i := len(a) - 1; i >= 0; i-- {
		out.Lsh(out, 64)
		out.Or(out, new(big.Int).SetUint64(a[i]))
	}
	return out
}

func numOf(a *big.Int) api.Num {
	out, _ := limb.FromBytes(string(a.FillBytes(make([]byte, 32))))
	return out
}

func modQ(a *big.Int) *big.Int { return a.Mod(a, bigQ) }

// places are scalars at which values are asked for: the ends, all nodes' numbers, and drawn ones.
func places() []api.Num {
	out := []api.Num{lessOne(q), lessOne(lessOne(q)), {0, 1}, {0, 0, 0, 1 << 63}}
	for x := range uint64(api.MaxNodes + 2) {
		out = append(out, api.Num{x})
	}
	source := rand.New(rand.NewSource(11))
	return append(out, drawn(source), drawn(source))
}

// drawn is a scalar that may be any.
func drawn(source *rand.Rand) api.Num { return numOf(new(big.Int).Rand(source, bigQ)) }

// drawnOrEdge is a scalar that is often at an end.
func drawnOrEdge(source *rand.Rand) api.Num {
	edges := []api.Num{{}, {1}, lessOne(q), {ones}}
	if i := source.Intn(2 * len(edges)); i < len(edges) {
		return edges[i]
	}
	return drawn(source)
}

// polynomial has that many coefficients.
func polynomial(source *rand.Rand, count int) []api.Num {
	var out []api.Num
	for range count {
		out = append(out, drawnOrEdge(source))
	}
	return out
}

// value is a polynomial's at x: the sum of each coefficient times a power.
func value(p []api.Num, x api.Num) api.Num {
	out := new(big.Int)
	for i, a := range p {
		power := new(big.Int).Exp(bigOf(x), big.NewInt(int64(i)), bigQ)
		out.Add(out, power.Mul(power, bigOf(a)))
	}
	return numOf(modQ(out))
}

// lagrange is what the value at place i is multiplied with for x.
func lagrange(at []int64, i int, x *big.Int) *big.Int {
	top, bottom := big.NewInt(1), big.NewInt(1)
	for j, other := range at {
		if j != i {
			top.Mul(top, new(big.Int).Sub(x, big.NewInt(other)))
			bottom.Mul(bottom, big.NewInt(at[i]-other))
		}
	}
	return modQ(top.Mul(top, bottom.ModInverse(modQ(bottom), bigQ)))
}

// weights are the nodes' numbers for x.
func weights(nodes []int, x api.Num) []api.Num {
	var at []int64
	for _, node := range nodes {
		at = append(at, int64(node))
	}
	var out []api.Num
	for i := range at {
		out = append(out, numOf(lagrange(at, i, bigOf(x))))
	}
	return out
}

// through are the coefficients of the polynomial that has these values: as many as there are values. It is laid
// together of differences between them, in another way than weights.
func through(at []int64, values []api.Num) []api.Num {
	slopes := make([]*big.Int, len(at))
	for i, v := range values {
		slopes[i] = bigOf(v)
	}
	for order := 1; order < len(at); order++ {
		for i := len(at) - 1; i >= order; i-- {
			gap := new(big.Int).ModInverse(modQ(big.NewInt(at[i]-at[i-order])), bigQ)
			rise := new(big.Int).Sub(slopes[i], slopes[i-1])
			slopes[i] = modQ(rise.Mul(rise, gap))
		}
	}
	out := make([]*big.Int, len(at))
	for i := range out {
		out[i] = new(big.Int)
	}
	// From the last slope on: what there is, times x - at[i], and the slope.
	for i := len(at) - 1; i >= 0; i-- {
		for j := len(out) - 1; j >= 0; j-- {
			less := new(big.Int).Mul(out[j], big.NewInt(at[i]))
			out[j] = new(big.Int)
			if j > 0 {
				out[j].Set(out[j-1])
			}
			out[j] = modQ(out[j].Sub(out[j], less))
		}
		out[0] = modQ(out[0].Add(out[0], slopes[i]))
	}
	var coefficients []api.Num
	for _, a := range out {
		coefficients = append(coefficients, numOf(a))
	}
	return coefficients
}

// nodeLists are all sets of nodes, each in some order.
func nodeLists() [][]int {
	source := rand.New(rand.NewSource(12))
	var out [][]int
	for set := 1; set < 1<<api.MaxNodes; set++ {
		var nodes []int
		for _, i := range source.Perm(api.MaxNodes) {
			if set>>i&1 == 1 {
				nodes = append(nodes, i+1)
			}
		}
		out = append(out, nodes)
	}
	return out
}

// someNodes are that many, in some order.
func someNodes(source *rand.Rand, count int) []int {
	var out []int
	for _, i := range source.Perm(api.MaxNodes)[:count] {
		out = append(out, i+1)
	}
	return out
}

// sharesOf are the nodes' shares of a polynomial.
func sharesOf(p []api.Num, nodes []int) []api.Num {
	var out []api.Num
	for _, node := range nodes {
		out = append(out, value(p, api.Num{uint64(node)}))
	}
	return out
}
