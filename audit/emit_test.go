package audit_test

import (
	"slices"
	"testing"

	"wardmote/api"
	"wardmote/audit"
	"wardmote/node"
)

// emit is a share that a node told.
func emit(i int, nonce, challenge uint64) node.Emit {
	return node.Emit{Pair: pair(i, nonce, nonce+1), Challenge: api.Num{challenge}}
}

// 28.1: no emit, or none of which the pair was there: no nonce was used twice.
func TestTwiceNone(t *testing.T) {
	twice(t, nil, 0, 0, false)
	twice(t, []node.Emit{}, 0, 0, false)
	twice(t, []node.Emit{emit(1, 1, 1)}, 0, 0, false)
	twice(t, []node.Emit{{}, {}, {}}, 0, 0, false)
	twice(t, []node.Emit{emit(1, 1, 1), emit(1, 2, 2), emit(2, 1, 3), emit(2, 2, 4)}, 0, 0, false)
	// The same share may be told twice.
	twice(t, []node.Emit{emit(1, 1, 1), emit(1, 1, 1), emit(2, 1, 2), emit(1, 1, 1), emit(2, 1, 2)}, 0, 0, false)
	var l []node.Emit
	for i, p := range unlike() {
		l = append(l, node.Emit{Pair: p, Challenge: api.Num{uint64(i)}})
	}
	twice(t, l, 0, 0, false)
	distinct(t, l, len(l))
}

// 28.1: the first emit counts, and the first one ahead of it.
func TestTwice(t *testing.T) {
	twice(t, []node.Emit{emit(1, 1, 1), emit(1, 1, 2)}, 0, 1, true)
	twice(t, []node.Emit{emit(1, 1, 1), emit(1, 1, 1), emit(1, 1, 2)}, 0, 2, true)
	twice(t, []node.Emit{emit(2, 1, 1), emit(1, 1, 1), emit(1, 1, 1), emit(1, 1, 2), emit(2, 1, 2)}, 1, 3, true)
	// The pair that is there later may be used twice sooner.
	twice(t, []node.Emit{emit(1, 1, 1), emit(1, 2, 1), emit(1, 2, 2), emit(1, 1, 2)}, 1, 2, true)
	twice(t, []node.Emit{emit(1, 1, 1), emit(1, 2, 1), emit(1, 1, 2), emit(1, 2, 2)}, 0, 2, true)
	twice(t, []node.Emit{emit(1, 1, 1), emit(1, 1, 2), emit(1, 1, 1), emit(1, 1, 3)}, 0, 1, true)
	twice(t, []node.Emit{{}, {Challenge: most}}, 0, 1, true)
}

// 28.1: whatever differs, a pair is another one, and a challenge too.
func TestTwiceUnlike(t *testing.T) {
	for i, p := range unlike() {
		for j, other := range unlike() {
			twice(t, []node.Emit{{Pair: p}, {Pair: other, Challenge: api.Num{1}}}, 0, one(i == j), i == j)
			distinct(t, []node.Emit{{Pair: p}, {Pair: other}}, 2-one(i == j))
		}
	}
	for i, c := range changed() {
		for j, other := range changed() {
			l := []node.Emit{{Pair: pair(1, 1, 2), Challenge: c}, {Pair: pair(1, 1, 2), Challenge: other}}
			twice(t, l, 0, one(i != j), i != j)
			distinct(t, l, 1)
		}
	}
}

// one is 1 for true.
func one(is bool) int {
	if is {
		return 1
	}
	return 0
}

// 28.1: how many unlike pairs there are, whatever the challenges.
func TestDistinct(t *testing.T) {
	distinct(t, nil, 0)
	distinct(t, []node.Emit{}, 0)
	distinct(t, []node.Emit{{}}, 1)
	distinct(t, []node.Emit{{}, {Challenge: most}, {}}, 1)
	distinct(t, []node.Emit{emit(1, 1, 1), emit(2, 1, 1), emit(1, 1, 2), emit(1, 2, 1), emit(2, 1, 5)}, 3)
	var l []node.Emit
	for _, p := range unlike() {
		l = append(l, node.Emit{Pair: p})
	}
	distinct(t, slices.Repeat(l, 3), len(l))
}

// 28.1: of any emits, both are as when each is held against all ahead.
func TestAnyEmits(t *testing.T) {
	source := newSource(1)
	found, most := 0, unlike()
	for range 3000 {
		var l []node.Emit
		pairs, challenges := 1+source.Intn(len(most)), 1+source.Intn(3)
		seen := map[int]bool{}
		for range source.Intn(12) {
			i := source.Intn(pairs)
			seen[i] = true
			l = append(l, node.Emit{Pair: most[i], Challenge: api.Num{3: uint64(max(source.Intn(3*challenges)-2*challenges, 0))}})
		}
		was := slices.Clone(l)
		ahead, at, is := plainTwice(l)
		twice(t, l, ahead, at, is)
		distinct(t, l, len(seen))
		found += one(is)
		if !slices.Equal(l, was) {
			t.Fatalf("%v was changed", was)
		}
	}
	if found < 500 || found > 2500 {
		t.Errorf("%d of 3000 had a nonce that was used twice", found)
	}
}

// P1: many emits are soon gone through.
func TestManyEmits(t *testing.T) {
	l := make([]node.Emit, 300000)
	for i := range l {
		l[i].Pair.Node = i / 2
	}
	twice(t, l, 0, 0, false)
	distinct(t, l, 150000)
	l[len(l)-1].Challenge = api.Num{1}
	twice(t, l, 299998, 299999, true)
	for i := range l {
		l[i].Pair.Node = 1
	}
	twice(t, l, 0, 299999, true)
	distinct(t, l, 1)
	if audit.Distinct(l[:0]) != 0 {
		t.Error("Distinct of none")
	}
}
