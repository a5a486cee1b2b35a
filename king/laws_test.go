package king_test

import (
	"math/rand"
	"slices"
	"testing"

	"wardmote/api"
	"wardmote/king"
)

// 15.1: whatever a node is told, in all rounds and in any order: it has what follows from all of it.
func TestLikePlain(t *testing.T) {
	tables(func(n, f int) {
		for seed := range int64(400) {
			source := rand.New(rand.NewSource(seed))
			p := plain{n: n, f: f, value: source.Intn(2)}
			x := begin(t, n, f, 1+source.Intn(n), p.value)
			for round := range 3 * (f + 1) {
				rounds(t, x, round, 3*(f+1))
				sends(t, x, p.now())
				told := make([]int, n)
				favour, odd := source.Intn(3), source.Intn(n+1)
				for i := range told {
					told[i] = favour
					if i < odd {
						told[i] = numbers[source.Intn(len(numbers))]
					}
				}
				source.Shuffle(n, func(i, j int) { told[i], told[j] = told[j], told[i] })
				p.told = append(p.told, told)
				hears(t, x, told...)
			}
			done(t, x, p.now())
		}
	})
}

// group are nodes that do as told, by their places; the others of n fail.
type group struct {
	n, f  int
	nodes []*king.Node // nil: one that fails
}

// form is a group whose nodes at odd's places fail, and whose others have values.
func form(t *testing.T, n, f int, odd []int, value func(at int) int) *group {
	t.Helper()
	g := &group{n: n, f: f, nodes: make([]*king.Node, n)}
	for at := range g.nodes {
		if !slices.Contains(odd, at) {
			g.nodes[at] = begin(t, n, f, at+1, value(at))
		}
	}
	return g
}

// run has a group go through all rounds; lie is what a node that fails tells another one.
func (g *group) run(t *testing.T, lie func(round, from, to int, sent []int) int) {
	t.Helper()
	for round := range 3 * (g.f + 1) {
		sent := make([]int, g.n)
		for at, x := range g.nodes {
			sent[at] = -1
			if x != nil {
				sent[at] = x.Send()
			}
		}
		for to, x := range g.nodes {
			if x == nil {
				continue
			}
			told := slices.Clone(sent)
			for from, other := range g.nodes {
				if other == nil {
					told[from] = lie(round, from, to, sent)
				}
			}
			hears(t, x, told...)
		}
	}
}

// agreed is the one value with which all that do as told are done.
func (g *group) agreed(t *testing.T) int {
	t.Helper()
	agreed := -1
	for at, x := range g.nodes {
		if x == nil {
			continue
		}
		got, is := x.Done()
		if !is || got != 0 && got != 1 || agreed >= 0 && got != agreed {
			t.Fatalf("node %d of %d: %d, %v; another one %d", at+1, g.n, got, is, agreed)
		}
		agreed = got
	}
	return agreed
}

// least is the word that is told least, or most, by those that do as told.
func least(sent []int, most bool) int {
	var counts [3]int
	for _, word := range sent {
		if word >= 0 {
			counts[word]++
		}
	}
	best := 0
	for word := range counts {
		if (counts[word] > counts[best]) == most && counts[word] != counts[best] {
			best = word
		}
	}
	return best
}

// liars are ways in which nodes fail.
func liars(source *rand.Rand) []func(round, from, to int, sent []int) int {
	return []func(round, from, to int, sent []int) int{
		func(_, _, _ int, _ []int) int { return source.Intn(3) },
		func(_, _, _ int, _ []int) int { return numbers[source.Intn(len(numbers))] },
		func(_, _, to int, _ []int) int { return to % 2 },
		func(_, _, to int, _ []int) int { return to % 3 },
		func(round, _, to int, _ []int) int { return (to + round) % 3 },
		func(_, from, to int, sent []int) int { return least(sent, (from+to)%2 == 0) },
		func(_, _, to int, sent []int) int { return least(sent, to < len(sent)/2) },
		func(round, _, to int, sent []int) int {
			if round%3 == 2 {
				return to % 2
			}
			return least(sent, source.Intn(2) == 0)
		},
	}
}

// oddPlaces are places of at most f nodes that fail: often those whose turn it is to be king.
func oddPlaces(source *rand.Rand, n, f int) []int {
	odd := source.Perm(n)[:source.Intn(f+1)]
	if source.Intn(2) == 0 {
		odd = source.Perm(f + 1)[:f]
	}
	return odd
}

// 15.2, 15.3: all that do as told agree, whatever at most f others tell whom, in every round, also as kings; on the value
// with which all of them began, if there is one.
func TestAgreement(t *testing.T) {
	tables(func(n, f int) {
		for seed := range int64(150) {
			source := rand.New(rand.NewSource(seed))
			for way, lie := range liars(source) {
				odd := oddPlaces(source, n, f)
				g := form(t, n, f, odd, func(int) int { return source.Intn(2) })
				g.run(t, lie)
				g.agreed(t)
				for value := range 2 {
					g = form(t, n, f, odd, func(int) int { return value })
					g.run(t, lie)
					if got := g.agreed(t); got != value {
						t.Fatalf("%d of %d, way %d: all began with %d: %d", f, n, way, value, got)
					}
				}
			}
		}
	})
}

// 15.2, 15.3: of 4 nodes, whatever one of them tells whom: all that three others can come to, step by step.
func TestAgreementOfFour(t *testing.T) {
	for odd := range 4 {
		for start := range 8 {
			values := [3]int{start & 1, start >> 1 & 1, start >> 2 & 1}
			var first [3]king.Node
			for i, at := range others(odd) {
				first[i] = *begin(t, 4, 1, at+1, values[i])
			}
			states := map[[3]king.Node]bool{first: true}
			for range 6 {
				states = step(t, states, odd)
			}
			for state := range states {
				a, _ := state[0].Done()
				b, _ := state[1].Done()
				c, is := state[2].Done()
				same := start == 0 || start == 7
				if !is || a != b || b != c || same && a != values[0] {
					t.Fatalf("node %d fails, start %v: %d %d %d", odd+1, values, a, b, c)
				}
			}
		}
	}
}

// others are the places, of 4, beside one.
func others(odd int) []int {
	return slices.DeleteFunc([]int{0, 1, 2, 3}, func(at int) bool { return at == odd })
}

// step are all states behind a round, whatever the one that fails tells each.
func step(t *testing.T, states map[[3]king.Node]bool, odd int) map[[3]king.Node]bool {
	t.Helper()
	out := map[[3]king.Node]bool{}
	for state := range states {
		for lies := range 27 {
			told := make([]int, 4)
			for i, at := range others(odd) {
				told[at] = state[i].Send()
			}
			next := state
			for i, lie := range []int{lies % 3, lies / 3 % 3, lies / 9} {
				told[odd] = lie
				hears(t, &next[i], told...)
			}
			out[next] = true
		}
	}
	return out
}

// 15.2: the document's example; and the same, where each of the four is the one that tells each something else.
func TestExample(t *testing.T) {
	for odd := range 4 {
		for value := range 2 {
			g := form(t, 4, 1, []int{odd}, func(int) int { return value })
			g.run(t, func(round, _, to int, _ []int) int { return (to + round) % 3 })
			if got := g.agreed(t); got != value {
				t.Errorf("node %d fails, %d of all others: %d", odd+1, value, got)
			}
		}
	}
}

// R3: what is told is not changed, spare room too, and not kept.
func TestToldStays(t *testing.T) {
	x, p := begin(t, 4, 1, 1, 1), plain{n: 4, f: 1, value: 1}
	for _, told := range [][]int{{1, 0, 7, 1}, {-1, 0, 0, 1}, {3, 1, 1, 1}, {0, 0, 0, 9}, {0, 1, 0, 5}, {2, 8, 2, 2}} {
		room := append(slices.Clone(told), 5, 6)
		p.told = append(p.told, told)
		hears(t, x, room[:4]...)
		if !slices.Equal(room, append(slices.Clone(told), 5, 6)) {
			t.Fatalf("changed: %v", room)
		}
		copy(room, []int{2, 2, 2, 2, 2, 2})
		if want := p.now(); x.Round() < 6 && x.Send() != want {
			t.Fatalf("behind %v: %d, not %d", told, x.Send(), want)
		}
	}
	done(t, x, p.now())
}

// R6: nodes have nothing of one another; the same is told again.
func TestNodesApart(t *testing.T) {
	x, y := begin(t, 4, 1, 1, 1), begin(t, 4, 1, 1, 1)
	hears(t, x, 0, 0, 0, 0)
	for range 3 {
		sends(t, x, 0)
		sends(t, y, 1)
		rounds(t, x, 1, 6)
		rounds(t, y, 0, 6)
	}
}

// P1: whatever table there is, and whatever is told, a node tells words, and is done behind its rounds.
func FuzzNode(f *testing.F) {
	f.Add(4, 1, 2, 1, []byte{4, 0, 1, 2, 3, 4, 1, 1, 1, 255})
	f.Add(1, 0, 1, 0, []byte{1, 0, 1, 1, 1, 2, 1, 7})
	f.Add(0, 0, 0, 0, []byte{0, 1, 2})
	f.Fuzz(func(t *testing.T, n, most, self, value int, bytes []byte) {
		x, e := king.New(n, most, self, value)
		if (e == api.OK) != (x != nil) {
			t.Fatalf("New(%d, %d, %d, %d): %v, %v", n, most, self, value, x, e)
		}
		for len(bytes) > 0 {
			length := min(int(bytes[0])%12, len(bytes)-1)
			told := make([]int, length)
			for i := range told {
				told[i] = int(bytes[1+i]) - 1
			}
			bytes = bytes[1+length:]
			was, goes := x.Round(), x.Round() < x.Rounds()
			switch e := x.Hear(told); {
			case !goes && e != api.ErrState, goes && length != n && e != api.ErrArg, goes && length == n && e != api.OK:
				t.Fatalf("Hear(%v): %v", told, e)
			case (e == api.OK) != (x.Round() == was+1), e != api.OK && x.Round() != was:
				t.Fatalf("Round: %d behind %d, %v", x.Round(), was, e)
			}
			word := x.Send()
			if word < 0 || word > 2 || x.Round() == x.Rounds() && word != 2 {
				t.Fatalf("Send: %d", word)
			}
		}
		if got, is := x.Done(); got < 0 || got > 1 || is != (x != nil && x.Round() == 3*(most+1)) {
			t.Fatalf("Done: %d, %v", got, is)
		}
	})
}
