package bind_test

import (
	"encoding/hex"
	"math/big"
	"math/rand"
	"slices"
	"testing"

	"wardmote/api"
	"wardmote/bind"
	"wardmote/curve"
	"wardmote/limb"
)

// 18.2: what another program reckoned.
func TestKnownFactors(t *testing.T) {
	l := []bind.Pair{
		{Node: 2, D: timesG(api.Num{3}), E: timesG(api.Num{7})}, {Node: 10, D: timesG(api.Num{5}), E: timesG(api.Num{11})},
	}
	y := timesG(api.Num{13})
	for _, known := range []struct {
		node          int
		factor, nonce string
	}{
		{
			2, "8897829b0c60afb125c653eb8278e3b8a72d19154ad4f257dcd4ac70c153a802",
			"02361943677d5ba681d74bb864229a843a42bda2f1b568c490894c1ac09bcde0bf",
		},
		{
			10, "ffacbf2727ef5838e93ad9e8e54320eba4fe5dfaa1d1c656a9eb185ad6a39ecb",
			"03a21ac92e4814330a374e6f73654f58bbb4945b34aa12986c8e3008103a1929e9",
		},
	} {
		factor, e := bind.Factor(y, "message", l, known.node)
		if hex.EncodeToString([]byte(limb.Bytes(factor))) != known.factor || e != api.OK {
			t.Errorf("Factor of %d: %x, %v", known.node, limb.Bytes(factor), e)
		}
		nonce, e := bind.Nonce(y, "message", l, known.node)
		if hex.EncodeToString([]byte(codeOf(nonce))) != known.nonce || e != api.OK {
			t.Errorf("Nonce of %d: %x, %v", known.node, codeOf(nonce), e)
		}
	}
	group, e := bind.Group(y, "message", l)
	want := "0310664be84e5f00409968cb81c630bc218f10cd42d51e6f027ba78672abe40bd6"
	if hex.EncodeToString([]byte(codeOf(group))) != want || e != api.OK {
		t.Errorf("Group: %x, %v", codeOf(group), e)
	}
}

// 18.2: factors, nonces and their sum, of lists of 1 to MaxNodes pairs and messages of 0 to MaxText bytes.
func TestBound(t *testing.T) {
	source := rand.New(rand.NewSource(2))
	for count := 1; count <= api.MaxNodes; count++ {
		for i, m := range messages {
			if count > 3 && count < 10 && i%3 != count%3 {
				continue
			}
			l, _ := listOf(source, count)
			y, sum := timesG(drawn(source)), infinity
			for _, a := range l {
				factor, e := bind.Factor(y, m, l, a.Node)
				if want := factorOf(y, m, l, a.Node); factor != want || e != api.OK {
					t.Fatalf("Factor: %v, %v, not %v", factor, e, want)
				}
				nonce, e := bind.Nonce(y, m, l, a.Node)
				if want := nonceOf(y, m, l, a); nonce != want || e != api.OK {
					t.Fatalf("Nonce: %v, %v, not %v", nonce, e, want)
				}
				sum, _ = curve.Add(sum, nonce)
			}
			if got, e := bind.Group(y, m, l); got != sum || e != api.OK {
				t.Fatalf("Group: %v, %v, not %v", got, e, sum)
			}
		}
	}
}

// 18.4: the group's nonce is of the secrets d + factor e, summed, times G.
func TestSecretsSum(t *testing.T) {
	source := rand.New(rand.NewSource(3))
	for count := 1; count <= api.MaxNodes; count++ {
		for range 4 {
			l, secrets := listOf(source, count)
			y, sum := timesG(drawn(source)), new(big.Int)
			for i, a := range l {
				factor, _ := bind.Factor(y, "m", l, a.Node)
				sum.Add(sum, bigOf(secrets[i].d))
				sum.Add(sum, new(big.Int).Mul(bigOf(factor), bigOf(secrets[i].e)))
			}
			if got, e := bind.Group(y, "m", l); got != timesG(scalarOf(sum)) || e != api.OK {
				t.Fatalf("Group: %v, %v, not %v", got, e, timesG(scalarOf(sum)))
			}
		}
	}
}

// 18.2: a factor hangs on all that it binds to: the public point, the message, each pair of the list, the node.
func TestFactorsApart(t *testing.T) {
	l, seen := plainList(4), map[api.Num]bool{}
	lists := [][]bind.Pair{l, l[:3], with(l, 3, bind.Pair{Node: 5, D: l[3].D, E: l[3].E})}
	for at := range l {
		lists = append(lists, with(l, at, bind.Pair{Node: at + 1, D: l[at].D, E: withX(6)}))
		lists = append(lists, with(l, at, bind.Pair{Node: at + 1, D: withX(6), E: l[at].E}))
	}
	count := 0
	for _, l := range lists {
		for _, y := range []api.Point{g, timesG(scalarOf(big.NewInt(-1))), withX(1)} {
			for _, m := range []string{"", "m", "\x00", "mm"} {
				for node := 1; node <= 3; node++ {
					factor, e := bind.Factor(y, m, l, node)
					if e != api.OK {
						t.Fatal(e)
					}
					seen[factor] = true
					count++
				}
			}
		}
	}
	if len(seen) != count {
		t.Errorf("%d factors of %d", len(seen), count)
	}
}

// wrongLists are no lists, with Check's error.
func wrongLists() map[api.Errno][][]bind.Pair {
	return map[api.Errno][][]bind.Pair{
		api.ErrArg: {
			nil, {}, plainList(11), {{Node: 0, D: g, E: g}}, {{Node: 11, D: g, E: g}}, {{Node: 257, D: g, E: g}},
			{{Node: 2, D: g, E: g}, {Node: 2, D: g, E: g}}, {{Node: 2, D: g, E: g}, {Node: 1, D: g, E: infinity}},
		},
		api.ErrCurve: {
			{{Node: 1, D: infinity, E: g}}, {{Node: 1, D: g, E: infinity}}, {{Node: 1, D: g, E: api.Point{X: g.X}}},
			with(plainList(10), 9, bind.Pair{Node: 10, D: g, E: infinity}), {{Node: 1}},
		},
	}
}

// 18.1: of several errors the first: the list's, then that of the public point, of the message, of the node.
func TestOrderOfErrors(t *testing.T) {
	good := plainList(3)
	for want, lists := range wrongLists() {
		for _, l := range lists {
			for _, y := range append([]api.Point{g}, refused...) {
				for _, m := range []string{"m", long} {
					for _, node := range []int{1, 2, 5, 0} {
						failsAll(t, "a wrong list", y, m, l, node, want)
					}
				}
			}
		}
	}
	for _, y := range refused {
		for _, m := range []string{"", "m", full, long} {
			for _, node := range []int{1, 3, 4, 0} {
				failsAll(t, "a wrong public point", y, m, good, node, api.ErrCurve)
			}
		}
	}
	for _, node := range []int{1, 3, 4, 0} {
		failsAll(t, "a long message", g, long, good, node, api.ErrLong)
		failsAll(t, "a long message", g, long+full, good, node, api.ErrLong)
	}
}

// 18.1: a node that is not in the list, also one that is no node, or is one mod 2^8.
func TestNoSuchNode(t *testing.T) {
	source := rand.New(rand.NewSource(4))
	for count := 1; count <= api.MaxNodes; count++ {
		l, _ := listOf(source, count)
		for node := range 13 {
			is := slices.ContainsFunc(l, func(a bind.Pair) bool { return a.Node == node })
			if !is {
				failsNode(t, "not in the list", g, "m", l, node, api.ErrNone)
				continue
			}
			if got, e := bind.Factor(g, "m", l, node); got != factorOf(g, "m", l, node) || e != api.OK {
				t.Fatalf("Factor of %d: %v, %v", node, got, e)
			}
		}
		for _, node := range append([]int{l[0].Node + 256, l[0].Node - 256, l[0].Node + 1<<32, -l[0].Node}, noNodes...) {
			failsNode(t, "no node", g, full, l, node, api.ErrNone)
		}
	}
}

// R3, R6: a list that is handed in is not changed, spare room too; an answer is a list of its own; the same is told again.
func TestListsApart(t *testing.T) {
	room := append(plainList(4), bind.Pair{Node: 99})
	l, was := room[:3], slices.Clone(room)
	first, _ := bind.Encode(l)
	group, _ := bind.Group(g, "m", l)
	for range 3 {
		bind.Check(l)
		bind.Factor(g, "m", l, 2)
		bind.Nonce(g, "m", l, 2)
		if s, e := bind.Encode(l); s != first || e != api.OK {
			t.Fatalf("Encode: %x, %v", s, e)
		}
		if got, e := bind.Group(g, "m", l); got != group || e != api.OK {
			t.Fatalf("Group: %v, %v", got, e)
		}
		if !slices.Equal(room, was) {
			t.Fatalf("changed: %v", room)
		}
	}
	one, _ := bind.Decode(first)
	two, _ := bind.Decode(first)
	clear(one[:cap(one)])
	if !slices.Equal(two, l) {
		t.Errorf("Decode: %v", two)
	}
}
