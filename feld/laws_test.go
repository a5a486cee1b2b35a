package feld_test

import (
	"math/big"
	"math/rand"
	"slices"
	"testing"

	"wardmote/api"
	"wardmote/feld"
	"wardmote/share"
)

// commit are commitments, as Commit tells them.
func commit(t *testing.T, p []api.Num) []api.Point {
	t.Helper()
	c, e := feld.Commit(p)
	if e != api.OK {
		t.Fatal(e)
	}
	return c
}

// 7.3: a share is checked just if it is the polynomial's value.
func TestOnlyTheValueIsChecked(t *testing.T) {
	source := rand.New(rand.NewSource(29))
	for count := 1; count <= api.MaxNodes; count++ {
		p := polynomial(source, count)
		c := commit(t, p)
		for x := range api.MaxNodes + 1 {
			s, e := share.Eval(p, x)
			if e != api.OK {
				t.Fatal(e)
			}
			tells(t, "Check of the value", feld.Check(c, x, s), api.OK)
			for _, other := range others(s, value(p, (x+1)%(api.MaxNodes+1))) {
				tells(t, "Check of another", feld.Check(c, x, other), api.ErrShare)
			}
		}
	}
}

// others are scalars that are not s: its neighbours, its negative, which has the same X, the ends, and one more.
func others(s, one api.Num) []api.Num {
	n, step := bigOf(s), big.NewInt(1)
	before, after := scalarOf(new(big.Int).Sub(n, step)), scalarOf(new(big.Int).Add(n, step))
	all := []api.Num{before, after, scalarOf(new(big.Int).Neg(n)), {}, {1}, lessOne(q), one}
	return slices.DeleteFunc(all, func(a api.Num) bool { return a == s })
}

// 7.3: each list tells at most one share of a number, whatever its points are.
func TestAtMostOneShare(t *testing.T) {
	for _, c := range [][]api.Point{{infinity}, {g}, {g, infinity}, {timesG(lessOne(q)), g}, {withX(1), withX(2)}} {
		for _, x := range []int{0, 1, 2, api.MaxNodes} {
			checked := 0
			for s := range uint64(12) {
				for _, a := range []api.Num{{s}, less(lessOne(q), api.Num{s})} {
					if feld.Check(c, x, a) == api.OK {
						checked++
					}
				}
			}
			if checked > 1 {
				t.Errorf("%v tells %d shares of %d", c, checked, x)
			}
		}
	}
}

// 7.4: commitments of a sum are the sums of the commitments, and check the sums of the shares.
func TestCommitmentsOfSums(t *testing.T) {
	source := rand.New(rand.NewSource(30))
	for count := 1; count <= api.MaxNodes; count++ {
		var l [][]api.Num
		var cs [][]api.Point
		for range 4 {
			p := polynomial(source, count)
			l, cs = append(l, p), append(cs, commit(t, p))
		}
		whole := sumOf(l)
		got, e := feld.Sum(cs)
		answersList(t, "Sum", got, e, commit(t, whole))
		for _, x := range []int{0, 1, api.MaxNodes} {
			tells(t, "Check of the sum", feld.Check(got, x, value(whole, x)), api.OK)
		}
	}
	minus := []api.Num{lessOne(q), {1}}
	got, e := feld.Sum([][]api.Point{commit(t, []api.Num{{1}, lessOne(q)}), commit(t, minus)})
	answersList(t, "Sum with the negative", got, e, []api.Point{infinity, infinity})
}

// R3: what is handed in stays as it was, spare room too.
func TestListsStay(t *testing.T) {
	p := []api.Num{{5}, {3}, {2}, {1}}
	c := []api.Point{g, infinity, withX(1), withX(2)}
	d := []api.Point{withX(3), g, g, infinity}
	l := [][]api.Point{c[:2], d[:2], c[1:3]}
	keptC, keptD := slices.Clone(c), slices.Clone(d)
	feld.Commit(p[:2])
	feld.Value(c[:2], 3)
	feld.Check(c[:2], 3, api.Num{7})
	feld.Sum(l[:2])
	feld.Encode(c[:2])
	if !slices.Equal(p, []api.Num{{5}, {3}, {2}, {1}}) || !slices.Equal(c, keptC) || !slices.Equal(d, keptD) {
		t.Errorf("lists were changed: %v, %v, %v", p, c, d)
	}
	if &l[0][0] != &c[0] || &l[1][0] != &d[0] || &l[2][0] != &c[1] || len(l[0]) != 2 || len(l[1]) != 2 {
		t.Errorf("the list of lists was changed: %v", l)
	}
}

// R3, R6: answers share no memory with what was handed in, or with each other, spare room too; the same is told again.
func TestAnswersAreNew(t *testing.T) {
	c := []api.Point{g, infinity, withX(1), withX(2)}
	kept, s := slices.Clone(c), codeOf(c)
	for range 3 {
		got, e := feld.Sum([][]api.Point{c[:3]})
		answersList(t, "Sum of one", got, e, kept[:3])
		spoil(got)
		got, e = feld.Commit([]api.Num{{}, {1}})
		answersList(t, "Commit", got, e, []api.Point{infinity, g})
		spoil(got)
		got, e = feld.Decode(s)
		answersList(t, "Decode", got, e, kept)
		spoil(got)
	}
	if !slices.Equal(c, kept) {
		t.Errorf("the sum is the list: %v", c)
	}
}

// spoil writes over a list and its spare room.
func spoil(l []api.Point) {
	l = l[:cap(l)]
	for i := range l {
		l[i] = api.Point{X: most, Y: most}
	}
}
