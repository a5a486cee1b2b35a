package share_test

import (
	"math/big"
	"math/rand"
	"slices"
	"testing"

	"wardmote/api"
	"wardmote/share"
)

// sums are those of polynomials, coefficient by coefficient.
func sums(l [][]api.Num) []api.Num {
	var out []api.Num
	for i := range l[0] {
		sum := new(big.Int)
		for _, p := range l {
			sum.Add(sum, bigOf(p[i]))
		}
		out = append(out, numOf(modQ(sum)))
	}
	return out
}

// 6.3: sums of one polynomial, of some, and of many.
func TestSum(t *testing.T) {
	source := rand.New(rand.NewSource(18))
	for count := 1; count <= api.MaxNodes; count++ {
		for _, many := range []int{1, 2, 3, 10, 11, 200} {
			var l [][]api.Num
			for range many {
				l = append(l, polynomial(source, count))
			}
			got, e := share.Sum(l)
			answersList(t, "Sum", got, e, sums(l))
		}
	}
	got, e := share.Sum([][]api.Num{{lessOne(q), {}}, {{1}, {}}, {lessOne(q), lessOne(q)}})
	answersList(t, "Sum", got, e, []api.Num{lessOne(q), lessOne(q)})
}

// 6.3: no polynomial, one that is none, and unlike ones, ahead of all that is no scalar.
func TestSumRefuses(t *testing.T) {
	long := make([]api.Num, 11)
	for _, l := range [][][]api.Num{
		nil, {}, {nil}, {{}}, {nil, nil}, {long}, {long, long}, {slices.Repeat([]api.Num{most}, 11)},
		{{{1}}, {{1}, {2}}}, {{{1}, {2}}, {{1}}}, {{{1}}, {{1}}, {{1}, {2}}}, {{{1}, {2}}, {{1}, {2}}, {{1}}},
		{{{1}}, nil}, {nil, {{1}}}, {{{1}}, {}, {{1}}}, {make([]api.Num, 10), long},
		{{q}, {{1}, {2}}}, {{{1}}, {q, q}}, {{most}, nil}, {{{1}}, {most}, {{1}, {2}}}, {{q}, {q}, long},
	} {
		got, e := share.Sum(l)
		failsList(t, "Sum", got, e, api.ErrArg)
	}
}

// 6.3: a coefficient that is no scalar, in whichever polynomial and wherever in it.
func TestSumRange(t *testing.T) {
	source := rand.New(rand.NewSource(19))
	for _, a := range strangers {
		for count := 1; count <= api.MaxNodes; count++ {
			for i := range 3 * count {
				l := [][]api.Num{polynomial(source, count), polynomial(source, count), polynomial(source, count)}
				l[i/count][i%count] = a
				got, e := share.Sum(l)
				failsList(t, "Sum", got, e, api.ErrRange)
			}
		}
	}
}

// 6.4: as many shares as coefficients, or more of them, tell the value everywhere.
func TestSharesTellThePolynomial(t *testing.T) {
	source := rand.New(rand.NewSource(20))
	for count := 1; count <= api.MaxNodes; count++ {
		p := polynomial(source, count)
		for many := count; many <= api.MaxNodes; many++ {
			nodes := someNodes(source, many)
			shares := evalAll(t, p, nodes)
			for _, x := range places() {
				want, e := share.At(p, x)
				if e != api.OK {
					t.Fatal(e)
				}
				got, e := share.Join(nodes, shares, x)
				answers(t, "Join", got, e, want)
			}
		}
	}
}

// evalAll are the nodes' shares, as Eval tells them.
func evalAll(t *testing.T, p []api.Num, nodes []int) []api.Num {
	t.Helper()
	var out []api.Num
	for _, node := range nodes {
		s, e := share.Eval(p, node)
		if e != api.OK {
			t.Fatal(e)
		}
		out = append(out, s)
	}
	return out
}

// 6.4: a share of a sum is the sum of the shares.
func TestSharesOfSums(t *testing.T) {
	source := rand.New(rand.NewSource(21))
	nodes := []int{1, 2, 3, 4, 5, 6, 7, 8, 9, 10}
	for count := 1; count <= api.MaxNodes; count++ {
		var l, shares [][]api.Num
		for range 5 {
			p := polynomial(source, count)
			l, shares = append(l, p), append(shares, evalAll(t, p, nodes))
		}
		whole, e := share.Sum(l)
		if e != api.OK {
			t.Fatal(e)
		}
		got, e := share.Sum(shares)
		answersList(t, "Sum of the shares", got, e, evalAll(t, whole, nodes))
	}
}

// 6.5: of fewer shares than coefficients any value at 0 is possible: for each there is a polynomial of as many
// coefficients that has these shares.
func TestFewSharesTellNothing(t *testing.T) {
	source := rand.New(rand.NewSource(22))
	for count := 2; count <= api.MaxNodes; count++ {
		p := polynomial(source, count)
		for few := 1; few < count; few++ {
			// The count's last nodes are there to have as many values as coefficients; nobody tells them.
			nodes := someNodes(source, count-1)
			shares := evalAll(t, p, nodes)[:few]
			for _, secret := range []api.Num{{}, {1}, lessOne(q), drawn(source)} {
				at, values := []int64{0}, []api.Num{secret}
				for i, node := range nodes {
					at = append(at, int64(node))
					if i < few {
						values = append(values, shares[i])
					} else {
						values = append(values, drawn(source))
					}
				}
				other := through(at, values)
				got, e := share.Eval(other, 0)
				answers(t, "Eval at 0", got, e, secret)
				answersList(t, "shares", evalAll(t, other, nodes[:few]), api.OK, shares)
			}
		}
	}
}

// 6.5: the share that one more node tells makes the value at 0 whatever it may be.
func TestOneMoreShareDecides(t *testing.T) {
	source := rand.New(rand.NewSource(23))
	for count := 2; count <= api.MaxNodes; count++ {
		nodes := someNodes(source, count)
		shares := polynomial(source, count)
		for _, secret := range []api.Num{{}, {1}, lessOne(q), drawn(source)} {
			at, values := []int64{0}, []api.Num{secret}
			for i, node := range nodes[:count-1] {
				at, values = append(at, int64(node)), append(values, shares[i])
			}
			shares[count-1] = value(through(at, values), api.Num{uint64(nodes[count-1])})
			got, e := share.Join(nodes, shares, api.Num{})
			answers(t, "Join", got, e, secret)
		}
	}
}

// R3: what is handed in stays as it was, spare room too.
func TestListsStay(t *testing.T) {
	p, r := []api.Num{{5}, {3}, {2}, {1}}, []api.Num{{8}, {9}, {7}, {6}}
	l, nodes := [][]api.Num{p[:2], r[:2], p[1:3]}, []int{1, 2, 3, 4}
	share.At(p[:2], api.Num{9})
	share.Eval(p[:2], 9)
	share.Weight(nodes[:2], 2)
	share.Weights(nodes[:2], api.Num{9})
	share.Join(nodes[:2], p[:2], api.Num{9})
	share.Sum(l[:2])
	if !slices.Equal(p, []api.Num{{5}, {3}, {2}, {1}}) || !slices.Equal(r, []api.Num{{8}, {9}, {7}, {6}}) {
		t.Errorf("polynomials were changed: %x, %x", p, r)
	}
	if !slices.Equal(nodes, []int{1, 2, 3, 4}) {
		t.Errorf("nodes were changed: %v", nodes)
	}
	if &l[0][0] != &p[0] || &l[1][0] != &r[0] || &l[2][0] != &p[1] || len(l[0]) != 2 || len(l[1]) != 2 {
		t.Errorf("the list of polynomials was changed: %x", l)
	}
}

// R3: answers share no memory with what was handed in, or with each other, spare room too.
func TestAnswersAreNew(t *testing.T) {
	p := []api.Num{{5}, {3}, {2}, {1}}
	for range 3 {
		got, e := share.Sum([][]api.Num{p[:3]})
		answersList(t, "Sum", got, e, []api.Num{{5}, {3}, {2}})
		spoil(got)
	}
	if !slices.Equal(p, []api.Num{{5}, {3}, {2}, {1}}) {
		t.Errorf("the sum is the polynomial: %x", p)
	}
	for range 3 {
		got, e := share.Weights([]int{1, 2}, api.Num{})
		answersList(t, "Weights", got, e, []api.Num{{2}, lessOne(q)})
		spoil(got)
	}
}

// spoil writes over a list and its spare room.
func spoil(l []api.Num) {
	l = l[:cap(l)]
	for i := range l {
		l[i] = most
	}
}

// R6: the same call tells the same.
func TestTellsTheSame(t *testing.T) {
	p, nodes := []api.Num{{5}, {3}, {2}}, []int{3, 1, 2}
	for range 3 {
		got, e := share.At(p, api.Num{3})
		answers(t, "At", got, e, api.Num{32})
		got, e = share.Join(nodes, []api.Num{{32}, {10}, {19}}, api.Num{4})
		answers(t, "Join", got, e, api.Num{49})
		got, e = share.Weight(nodes, 3)
		answers(t, "Weight", got, e, api.Num{1})
		share.Join(nodes, nil, api.Num{})
		share.At(nil, most)
	}
}
