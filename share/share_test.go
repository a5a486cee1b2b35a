package share_test

import (
	"math"
	"math/rand"
	"slices"
	"testing"

	"wardmote/api"
	"wardmote/share"
)

// noNodes are lists that are none of nodes: none, no node's number, twice the same, too many.
var noNodes = [][]int{
	nil, {}, {0}, {-1}, {11}, {12}, {math.MinInt}, {math.MaxInt}, {1 << 32}, {1<<32 + 1}, {1, 1}, {10, 10},
	{1, 2, 1}, {3, 2, 1, 0}, {11, 1}, {1, 11}, {5, 4, 3, 5}, {1, -1}, {1, 257},
	{1, 2, 3, 4, 5, 6, 7, 8, 9, 10, 11}, {1, 2, 3, 4, 5, 6, 7, 8, 9, 10, 1}, {0, 1, 2, 3, 4, 5, 6, 7, 8, 9, 10},
	{10, 9, 8, 7, 6, 5, 4, 3, 2, 1, 10}, {1, 2, 3, 4, 5, 6, 7, 8, 9, 9}, slices.Repeat([]int{3}, 1000),
}

func answers(t *testing.T, what string, got api.Num, e api.Errno, want api.Num) {
	t.Helper()
	if e != api.OK || got != want {
		t.Fatalf("%s: %x, %v, not %x", what, bigOf(got), e, bigOf(want))
	}
}

// fails looks for the error, and for nothing beside it (R4).
func fails(t *testing.T, what string, got api.Num, e, want api.Errno) {
	t.Helper()
	if e != want || got != (api.Num{}) {
		t.Errorf("%s: %x, %v, not %v", what, got, e, want)
	}
}

func answersList(t *testing.T, what string, got []api.Num, e api.Errno, want []api.Num) {
	t.Helper()
	if e != api.OK || !slices.Equal(got, want) {
		t.Fatalf("%s: %x, %v, not %x", what, got, e, want)
	}
}

func failsList(t *testing.T, what string, got []api.Num, e, want api.Errno) {
	t.Helper()
	if e != want || len(got) != 0 {
		t.Errorf("%s: %x, %v, not %v", what, got, e, want)
	}
}

// 6.1, 6.3: the document's examples.
func TestExamples(t *testing.T) {
	p := []api.Num{{5}, {3}}
	got, e := share.Eval(p, 2)
	answers(t, "Eval", got, e, api.Num{11})
	got, e = share.Join([]int{1, 2}, []api.Num{{8}, {11}}, api.Num{})
	answers(t, "Join", got, e, api.Num{5})
}

// 6.1: values of polynomials of 1 to MaxNodes coefficients, at scalars and at nodes' numbers.
func TestAtAndEval(t *testing.T) {
	source := rand.New(rand.NewSource(13))
	for count := 1; count <= api.MaxNodes; count++ {
		for range 10 {
			p := polynomial(source, count)
			for _, x := range places() {
				got, e := share.At(p, x)
				answers(t, "At", got, e, value(p, x))
			}
			for x := range api.MaxNodes + 1 {
				got, e := share.Eval(p, x)
				answers(t, "Eval", got, e, value(p, api.Num{uint64(x)}))
			}
		}
	}
}

// 6.1: coefficients of 0, 1 and Q - 1 alone, at each place.
func TestAtEdges(t *testing.T) {
	for _, a := range []api.Num{{}, {1}, lessOne(q)} {
		for count := 1; count <= api.MaxNodes; count++ {
			all, last := slices.Repeat([]api.Num{a}, count), make([]api.Num, count)
			last[count-1] = a
			for _, p := range [][]api.Num{all, last} {
				for _, x := range []api.Num{{}, {1}, lessOne(q)} {
					got, e := share.At(p, x)
					answers(t, "At", got, e, value(p, x))
				}
				got, e := share.Eval(p, 0)
				answers(t, "Eval at 0", got, e, p[0])
			}
		}
	}
}

// 6.1: no coefficient, or more than MaxNodes, is ErrArg, ahead of all that is no scalar.
func TestNoPolynomial(t *testing.T) {
	for _, p := range [][]api.Num{
		nil, {}, make([]api.Num, 11), make([]api.Num, 1000), slices.Repeat([]api.Num{most}, 11),
	} {
		for _, x := range []api.Num{{}, {1}, q, most} {
			got, e := share.At(p, x)
			fails(t, "At", got, e, api.ErrArg)
		}
		for _, x := range []int{0, 1, api.MaxNodes, -1, api.MaxNodes + 1} {
			got, e := share.Eval(p, x)
			fails(t, "Eval", got, e, api.ErrArg)
		}
	}
}

// 6.1: a coefficient that is no scalar, wherever it stands, or such an x.
func TestAtRange(t *testing.T) {
	source := rand.New(rand.NewSource(14))
	for _, a := range strangers {
		for count := 1; count <= api.MaxNodes; count++ {
			p := polynomial(source, count)
			got, e := share.At(p, a)
			fails(t, "At, x", got, e, api.ErrRange)
			for i := range p {
				wrong := slices.Clone(p)
				wrong[i] = a
				for _, x := range []api.Num{{}, {1}, lessOne(q), a} {
					got, e := share.At(wrong, x)
					fails(t, "At", got, e, api.ErrRange)
				}
				for _, x := range []int{0, 1, api.MaxNodes} {
					got, e := share.Eval(wrong, x)
					fails(t, "Eval", got, e, api.ErrRange)
				}
			}
		}
	}
}

// 6.1: Eval's x is from 0 to MaxNodes; that comes ahead of coefficients that are no scalars.
func TestEvalRefuses(t *testing.T) {
	for _, x := range []int{-1, -10, math.MinInt, api.MaxNodes + 1, 12, 256, 1 << 32, api.MaxBig, math.MaxInt} {
		for _, p := range [][]api.Num{{{}}, {{5}, {3}}, {q}, {{1}, most}, slices.Repeat([]api.Num{q}, api.MaxNodes)} {
			got, e := share.Eval(p, x)
			fails(t, "Eval", got, e, api.ErrArg)
		}
	}
}

// 6.2: the weights of all sets of nodes; at a node's number these are 1 of that node and 0 of others.
func TestWeights(t *testing.T) {
	all := places()
	for i, nodes := range nodeLists() {
		for _, x := range []api.Num{{}, {uint64(nodes[0])}, lessOne(q), all[i%len(all)]} {
			got, e := share.Weights(nodes, x)
			answersList(t, "Weights", got, e, weights(nodes, x))
		}
	}
}

// 6.2: at a node's own number.
func TestWeightsAtNodes(t *testing.T) {
	nodes := []int{4, 10, 1, 7}
	for i, node := range nodes {
		want := make([]api.Num, len(nodes))
		want[i] = api.Num{1}
		got, e := share.Weights(nodes, api.Num{uint64(node)})
		answersList(t, "Weights", got, e, want)
	}
	got, e := share.Weights([]int{6}, lessOne(q))
	answersList(t, "Weights of one", got, e, []api.Num{{1}})
}

// 6.2: what weights are for: polynomials of fewer coefficients than nodes, or as many, and not of more.
func TestWeightsTellValues(t *testing.T) {
	source := rand.New(rand.NewSource(15))
	for count := 1; count <= api.MaxNodes; count++ {
		nodes := someNodes(source, count)
		for _, x := range places() {
			got, e := share.Weights(nodes, x)
			if e != api.OK || len(got) != count {
				t.Fatalf("Weights: %x, %v", got, e)
			}
			for few := 1; few <= count; few++ {
				p := polynomial(source, few)
				if dot(got, sharesOf(p, nodes)) != value(p, x) {
					t.Fatalf("%d nodes, %d coefficients: not the value at %x", count, few, x)
				}
			}
		}
		past := slices.Repeat([]api.Num{{1}}, count+1)
		if got, _ := share.Weights(nodes, api.Num{}); dot(got, sharesOf(past, nodes)) == value(past, api.Num{}) {
			t.Fatalf("%d nodes tell the value of %d coefficients", count, count+1)
		}
	}
}

// dot is the sum of products.
func dot(a, b []api.Num) api.Num {
	out := bigOf(api.Num{})
	for i := range a {
		product := bigOf(a[i])
		out.Add(out, product.Mul(product, bigOf(b[i])))
	}
	return numOf(modQ(out))
}

// 6.2: one node's weight for 0.
func TestWeight(t *testing.T) {
	for _, nodes := range nodeLists() {
		want := weights(nodes, api.Num{})
		for i, node := range nodes {
			got, e := share.Weight(nodes, node)
			answers(t, "Weight", got, e, want[i])
		}
	}
}

// 6.2: a node that is none of them.
func TestWeightOfAnother(t *testing.T) {
	for _, nodes := range [][]int{{1}, {10}, {3, 1, 2}, {1, 2, 3, 4, 6, 7, 8, 9, 10}} {
		for _, node := range []int{5, 0, -1, 11, math.MinInt, math.MaxInt, 1 << 32, 1<<32 + 1, 1<<32 + 10} {
			got, e := share.Weight(nodes, node)
			fails(t, "Weight", got, e, api.ErrArg)
		}
	}
}

// 6.2, 6.3: lists that are none of nodes, ahead of all that is wrong besides.
func TestNoNodes(t *testing.T) {
	for _, nodes := range noNodes {
		for _, x := range []api.Num{{}, {1}, q, most} {
			got, e := share.Weights(nodes, x)
			failsList(t, "Weights", got, e, api.ErrArg)
			for _, shares := range [][]api.Num{nil, make([]api.Num, len(nodes)), slices.Repeat([]api.Num{q}, len(nodes))} {
				got, e := share.Join(nodes, shares, x)
				fails(t, "Join", got, e, api.ErrArg)
			}
		}
		for _, node := range append([]int{0, 1, 3, 10, 11}, nodes...) {
			got, e := share.Weight(nodes, node)
			fails(t, "Weight", got, e, api.ErrArg)
		}
	}
}

// 6.2: an x that is no scalar.
func TestWeightsRange(t *testing.T) {
	for _, nodes := range nodeLists() {
		for _, x := range strangers {
			got, e := share.Weights(nodes, x)
			failsList(t, "Weights", got, e, api.ErrRange)
		}
	}
}

// 6.3: sums of shares times weights, whatever the shares are.
func TestJoin(t *testing.T) {
	source := rand.New(rand.NewSource(16))
	all := places()
	for i, nodes := range nodeLists() {
		shares := polynomial(source, len(nodes))
		for _, x := range []api.Num{{}, lessOne(q), all[i%len(all)]} {
			got, e := share.Join(nodes, shares, x)
			answers(t, "Join", got, e, dot(shares, weights(nodes, x)))
		}
	}
}

// 6.3: not as many shares as nodes, ahead of shares that are no scalars, and behind an x that is none.
func TestJoinCounts(t *testing.T) {
	nodes := []int{3, 1, 2}
	for _, count := range []int{0, 1, 2, 4, 5, 10, 11, 1000} {
		for _, a := range []api.Num{{}, {1}, q, most} {
			shares := slices.Repeat([]api.Num{a}, count)
			got, e := share.Join(nodes, shares, api.Num{})
			fails(t, "Join", got, e, api.ErrArg)
			for _, x := range strangers {
				got, e := share.Join(nodes, shares, x)
				fails(t, "Join, x", got, e, api.ErrRange)
			}
		}
	}
}

// 6.3: a share that is no scalar, wherever it stands, or such an x.
func TestJoinRange(t *testing.T) {
	source := rand.New(rand.NewSource(17))
	for _, a := range strangers {
		for count := 1; count <= api.MaxNodes; count++ {
			nodes, shares := someNodes(source, count), polynomial(source, count)
			got, e := share.Join(nodes, shares, a)
			fails(t, "Join, x", got, e, api.ErrRange)
			for i := range shares {
				wrong := slices.Clone(shares)
				wrong[i] = a
				for _, x := range []api.Num{{}, {uint64(nodes[0])}, a} {
					got, e := share.Join(nodes, wrong, x)
					fails(t, "Join", got, e, api.ErrRange)
				}
			}
		}
	}
}
