package signer_test

import (
	"encoding/hex"
	"math"
	"math/rand"
	"slices"
	"strings"
	"testing"

	"wardmote/api"
	"wardmote/bind"
	"wardmote/dkg"
	"wardmote/limb"
	"wardmote/signer"
)

// 19.1, 19.2: what another program reckoned.
func TestKnownShares(t *testing.T) {
	line := []api.Num{{0x1234567890abcdef, 0x1234567890abcdef}, {77}, scalarOf(bigOf(api.Num{5}).Neg(bigOf(api.Num{5})))}
	known := []struct {
		node, nonce int
		seed        string
		d, e, z     string
	}{
		{
			2, 1, "", "03692f14725d0ba58efd1ffc3f147d99c266158a6e6d66e3a0b5153033418d91ea",
			"0345705bef2921c93cbb0f3f5b65fdfc7ad5c004ecb0eeb512045bfb0fd64ed4c2",
			"dc02477071bca589b068ebc92bd9133cf4804a561171ef5cbe9d7c3e2ea1dd3d",
		},
		{
			5, 3, "seed five", "02b447208224e5bc07411cb7351c011b9ff7653920e9d700eb81cd39742d730b8e",
			"0350230b2ebc6c024b148cb37ad6f6b39f0f49225a61a0e034a95d50525e050c08",
			"987690bc6409315a081937f59b4597755ce50cdd1c93b9ae95010676f9814666",
		},
		{
			7, api.MaxBig, strings.Repeat("s", 64), "024e643d25f099b4ea6b933946f43809409489a6cbb00a86a65d825d1e75f6189f",
			"025183c4e2415dbbb09d964e6c6cc01eab8cc12d81efd4e9b252f6e8cd581888fc",
			"4fbf125c2fcdec6caf38a5317246e50494ff6392a33c702dab1aab0ac11d92d3",
		},
	}
	var l []bind.Pair
	var all []*signer.Signer
	for _, a := range known {
		s := begin(t, keyOf(7, a.node, line), a.seed, a.nonce-1)
		pair := issues(t, s, a.nonce)
		if hexOf(codeOf(pair.D)) != a.d || hexOf(codeOf(pair.E)) != a.e {
			t.Errorf("node %d: %x, %x", a.node, codeOf(pair.D), codeOf(pair.E))
		}
		l, all = append(l, pair), append(all, s)
	}
	for i, a := range known {
		if z, e := all[i].Sign(a.nonce, "message", l); hexOf(limb.Bytes(z)) != a.z || e != api.OK {
			t.Errorf("node %d: %x, %v", a.node, limb.Bytes(z), e)
		}
	}
}

func hexOf(s string) string { return hex.EncodeToString([]byte(s)) }

// 19.2: shares of each table's nodes, in any list and of any message, with nonces in any order.
func TestSign(t *testing.T) {
	source := rand.New(rand.NewSource(1))
	tables(func(n, f int) {
		self := 1 + source.Intn(n)
		k := keyOf(n, self, lineOf(source, f+1))
		used := source.Intn(3)
		s := begin(t, k, "seed", used)
		var pairs []bind.Pair
		for i := range messages {
			pairs = append(pairs, issues(t, s, used+1+i))
		}
		for i, at := range source.Perm(len(messages)) {
			l, nonce := listWith(source, pairs[at], someNodes(source, n, f+1, self)), used+1+at
			signs(t, s, nonce, messages[i], l, shareOf(k, "seed", nonce, messages[i], l))
		}
	})
}

// wrongList is a list that Sign refuses: with an error ahead of the message's, or one behind it.
type wrongList struct {
	what        string
	l           []bind.Pair
	early, late api.Errno
}

// wrongLists are such, of plainKey and its own pair, and other pairs of its node, that are not that nonce's.
func wrongLists(own bind.Pair, others ...bind.Pair) []wrongList {
	pair := func(node int) bind.Pair { return bind.Pair{Node: node, D: g, E: timesG(api.Num{9})} }
	inf, stranger := bind.Pair{Node: 3, D: g, E: infinity}, bind.Pair{Node: 3, D: api.Point{X: g.X}, E: g}
	many := []bind.Pair{pair(1), own}
	for node := 3; node <= 11; node++ {
		many = append(many, pair(node))
	}
	out := []wrongList{
		{"none", nil, api.ErrArg, 0},
		{"empty", []bind.Pair{}, api.ErrArg, 0},
		{"eleven", many, api.ErrArg, 0},
		{"node 0", []bind.Pair{pair(0), own}, api.ErrArg, 0},
		{"node 11", []bind.Pair{own, pair(11)}, api.ErrArg, 0},
		{"falling", []bind.Pair{pair(3), own}, api.ErrArg, 0},
		{"twice", []bind.Pair{own, own}, api.ErrArg, 0},
		{"falling, at infinity", []bind.Pair{inf, own}, api.ErrArg, 0},
		{"at infinity", []bind.Pair{own, inf}, api.ErrCurve, 0},
		{"stranger", []bind.Pair{own, stranger}, api.ErrCurve, 0},
		{"stranger, F + 2", []bind.Pair{own, stranger, pair(4)}, api.ErrCurve, 0},
		{"stranger, above N", []bind.Pair{own, {Node: 5, D: g}}, api.ErrCurve, 0},
		{"stranger, F, not its node", []bind.Pair{stranger}, api.ErrCurve, 0},
		{"F", []bind.Pair{own}, api.ErrArg, 0},
		{"F, not its node", []bind.Pair{pair(3)}, api.ErrArg, 0},
		{"F + 2", []bind.Pair{own, pair(3), pair(4)}, api.ErrArg, 0},
		{"F + 2, another pair", []bind.Pair{pair(2), pair(3), pair(4)}, api.ErrArg, 0},
		{"ten", many[:10], api.ErrArg, 0},
		{"above N", []bind.Pair{own, pair(5)}, api.ErrArg, 0},
		{"far above N", []bind.Pair{own, pair(10)}, api.ErrArg, 0},
		{"above N, not its node", []bind.Pair{pair(1), pair(5)}, api.ErrArg, 0},
		{"above N, another pair", []bind.Pair{pair(2), pair(5)}, api.ErrArg, 0},
		{"not its node", []bind.Pair{pair(1), pair(3)}, 0, api.ErrNone},
		{"its pair, not its node", []bind.Pair{{Node: 1, D: own.D, E: own.E}, {Node: 4, D: own.D, E: own.E}}, 0, api.ErrNone},
		{"another pair", []bind.Pair{pair(1), pair(2)}, 0, api.ErrForm},
		{"another D", []bind.Pair{{Node: 2, D: g, E: own.E}, pair(3)}, 0, api.ErrForm},
		{"another E", []bind.Pair{{Node: 2, D: own.D, E: g}, pair(3)}, 0, api.ErrForm},
		{"turned around", []bind.Pair{{Node: 2, D: own.E, E: own.D}, pair(3)}, 0, api.ErrForm},
	}
	for _, other := range others {
		out = append(out, wrongList{"another one's", []bind.Pair{other, pair(3)}, 0, api.ErrForm})
	}
	return out
}

// 19.2: of several errors the first; and an error leaves the nonce as it was.
func TestSignErrors(t *testing.T) {
	k := plainKey()
	s := begin(t, k, "s", 2)
	own, next, third := issues(t, s, 3), issues(t, s, 4), issues(t, s, 5)
	right := []bind.Pair{own, {Node: 3, D: g, E: g}}
	spent := []bind.Pair{{Node: 1, D: g, E: g}, next}
	signs(t, s, 4, "m", spent, shareOf(k, "s", 4, "m", spent))
	lists := wrongLists(own, next, third, pairOf(2, "s", 1), pairOf(2, "s", 6), pairOf(2, "t", 3))
	lists = append(lists, wrongList{"right", right, 0, 0})
	nonces := map[int]api.Errno{
		0: api.ErrArg, -1: api.ErrArg, math.MinInt: api.ErrArg, 6: api.ErrNone, api.MaxBig: api.ErrNone,
		api.MaxBig + 1: api.ErrNone, math.MaxInt: api.ErrNone, 1: api.ErrSpent, 2: api.ErrSpent, 4: api.ErrSpent, 3: api.OK,
	}
	for nonce, first := range nonces {
		for _, c := range lists {
			for _, m := range []string{"", "m", full, long, long + long} {
				want := c.late
				if len(m) > api.MaxText {
					want = api.ErrLong
				}
				if c.early != api.OK {
					want = c.early
				}
				if first != api.OK {
					want = first
				}
				if want != api.OK {
					fails(t, c.what, s, nonce, m, c.l, want)
				}
			}
		}
	}
	signs(t, s, 3, full, right, shareOf(k, "s", 3, full, right))
	l := []bind.Pair{third, {Node: 4, D: g, E: g}}
	signs(t, s, 5, "m", l, shareOf(k, "s", 5, "m", l))
}

// 19.2: a list of a table with as many nodes as may be, each of which may stand in it.
func TestNodesUpToN(t *testing.T) {
	for n := 4; n <= 10; n++ {
		k := keyOf(n, 1, []api.Num{{11}, {5}})
		s := begin(t, k, "s", 0)
		for node := 2; node <= 10; node++ {
			l := []bind.Pair{issues(t, s, node-1), {Node: node, D: g, E: g}}
			if node > n {
				fails(t, "above N", s, node-1, "m", l, api.ErrArg)
				continue
			}
			signs(t, s, node-1, "m", l, shareOf(k, "s", node-1, "m", l))
		}
	}
}

// 19.3: a nonce that is asked for again, with the same or other lists and messages.
func TestAskedTwice(t *testing.T) {
	source := rand.New(rand.NewSource(2))
	k := keyOf(7, 4, lineOf(source, 3))
	s := begin(t, k, "s", 0)
	own, next := issues(t, s, 1), issues(t, s, 2)
	first := listWith(source, own, []int{1, 4, 7})
	signs(t, s, 1, "m", first, shareOf(k, "s", 1, "m", first))
	for _, m := range []string{"m", "n", "", full, long} {
		for _, l := range [][]bind.Pair{
			first, listWith(source, own, []int{1, 4, 7}), listWith(source, own, []int{4, 5, 6}),
			listWith(source, next, []int{1, 4, 7}), listWith(source, own, []int{4, 5}), first[:1], nil,
		} {
			fails(t, "again", s, 1, m, l, api.ErrSpent)
		}
	}
	l := listWith(source, next, []int{2, 3, 4})
	signs(t, s, 2, "m", l, shareOf(k, "s", 2, "m", l))
	for nonce := 1; nonce <= 2; nonce++ {
		fails(t, "again", s, nonce, "m", l, api.ErrSpent)
	}
}

// 19.3: those that were used at the beginning are never told of.
func TestUsedAreSpent(t *testing.T) {
	k := plainKey()
	for _, used := range []int{1, 3, api.MaxBig} {
		s := begin(t, k, "s", used)
		for _, nonce := range []int{1, 2, 3, used - 1, used} {
			if nonce < 1 || nonce > used {
				continue
			}
			l := []bind.Pair{pairOf(2, "s", nonce), {Node: 3, D: g, E: g}}
			fails(t, "used", s, nonce, "m", l, api.ErrSpent)
			fails(t, "used", s, nonce, long, nil, api.ErrSpent)
		}
	}
}

// R3: what is handed in is neither changed nor kept, spare room too.
func TestArgumentsAreLeft(t *testing.T) {
	k := plainKey()
	k.Group = append(k.Group, g, g)[:2]
	k.Dealers = []int{1, 2}
	handed := dkg.Key{N: k.N, F: k.F, Self: k.Self, Share: k.Share, Public: k.Public, Group: k.Group, Dealers: k.Dealers}
	s := begin(t, handed, "s", 0)
	kept := slices.Clone(k.Group[:4])
	own := issues(t, s, 1)
	room := []bind.Pair{own, {Node: 3, D: g, E: g}, {Node: 4, D: g, E: g}}
	l, was := room[:2], slices.Clone(room)
	want := shareOf(plainKey(), "s", 1, "m", l)
	if !slices.Equal(k.Group[:4], kept) || !slices.Equal(k.Dealers, []int{1, 2}) {
		t.Error("New or Issue changed the key")
	}
	handed.Group[0], handed.Group[1] = g, infinity
	signs(t, s, 1, "m", l, want)
	if !slices.Equal(room, was) {
		t.Error("Sign changed its list")
	}
}

// R6: signers of one key, seed and number tell the same, and nothing of one another.
func TestTheSame(t *testing.T) {
	k := plainKey()
	a, b := begin(t, k, "s", 5), begin(t, k, "s", 5)
	l := []bind.Pair{issues(t, a, 6), {Node: 3, D: g, E: g}}
	fails(t, "issued by the other", b, 6, "m", l, api.ErrNone)
	if got := issues(t, b, 6); got != l[0] {
		t.Errorf("Issue: %v, not %v", got, l[0])
	}
	want := shareOf(k, "s", 6, "m", l)
	signs(t, a, 6, "m", l, want)
	signs(t, b, 6, "m", l, want)
}
