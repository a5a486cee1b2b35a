package gather_test

import (
	"encoding/hex"
	"math"
	"math/rand"
	"slices"
	"testing"

	"wardmote/api"
	"wardmote/bind"
	"wardmote/curve"
	"wardmote/gather"
	"wardmote/limb"
	"wardmote/schnorr"
)

// plainScene is of four nodes, one of which fails: 1 and 3.
func plainScene() scene {
	return scene{
		n: 4, line: []api.Num{{11}, {5}}, m: "m", nodes: []int{1, 3}, d: []api.Num{{21}, {22}}, e: []api.Num{{31}, {32}},
	}
}

// answers looks for what Take tells.
func answers(t *testing.T, x *gather.Gather, node int, z api.Num, want bool, none api.Errno) {
	t.Helper()
	if last, e := x.Take(node, z); last != want || e != none {
		t.Errorf("Take(%d, %v): %v, %v, not %v, %v", node, z, last, e, want, none)
	}
}

// lists looks for those that are bad and missing.
func lists(t *testing.T, x *gather.Gather, bad, missing []int) {
	t.Helper()
	if got := x.Bad(); !slices.Equal(got, bad) {
		t.Errorf("Bad: %v, not %v", got, bad)
	}
	if got := x.Missing(); !slices.Equal(got, missing) {
		t.Errorf("Missing: %v, not %v", got, missing)
	}
}

// noSig looks for a gathering that has no signature.
func noSig(t *testing.T, x *gather.Gather) {
	t.Helper()
	if got, e := x.Sig(); got != (api.Sig{}) || e != api.ErrState {
		t.Errorf("Sig: %v, %v", got, e)
	}
}

// refuses looks for New's error, and for nothing beside it (R4).
func refuses(t *testing.T, what string, n, f int, group []api.Point, m string, l []bind.Pair, want api.Errno) {
	t.Helper()
	if x, e := gather.New(n, f, group, m, l); x != nil || e != want {
		t.Errorf("New, %s: %v, %v, not %v", what, x, e, want)
	}
}

// 20.2: the document's example.
func TestExample(t *testing.T) {
	c := plainScene()
	x, z := c.begin(t), c.right()
	lists(t, x, nil, []int{1, 3})
	answers(t, x, 1, z[0], false, api.OK)
	answers(t, x, 3, near(z[1], 1), false, api.ErrShare)
	lists(t, x, []int{3}, nil)
	noSig(t, x)
}

// 20.2, 20.3: what another program reckoned.
func TestKnownSignature(t *testing.T) {
	var l []bind.Pair
	var shares []api.Num
	for _, known := range []struct {
		node    int
		d, e, z string
	}{
		{
			2, "03692f14725d0ba58efd1ffc3f147d99c266158a6e6d66e3a0b5153033418d91ea",
			"0345705bef2921c93cbb0f3f5b65fdfc7ad5c004ecb0eeb512045bfb0fd64ed4c2",
			"dc02477071bca589b068ebc92bd9133cf4804a561171ef5cbe9d7c3e2ea1dd3d",
		},
		{
			5, "02b447208224e5bc07411cb7351c011b9ff7653920e9d700eb81cd39742d730b8e",
			"0350230b2ebc6c024b148cb37ad6f6b39f0f49225a61a0e034a95d50525e050c08",
			"987690bc6409315a081937f59b4597755ce50cdd1c93b9ae95010676f9814666",
		},
		{
			7, "024e643d25f099b4ea6b933946f43809409489a6cbb00a86a65d825d1e75f6189f",
			"025183c4e2415dbbb09d964e6c6cc01eab8cc12d81efd4e9b252f6e8cd581888fc",
			"4fbf125c2fcdec6caf38a5317246e50494ff6392a33c702dab1aab0ac11d92d3",
		},
	} {
		d, _ := curve.Decode(bytesOf(known.d))
		e, _ := curve.Decode(bytesOf(known.e))
		z, _ := limb.FromBytes(bytesOf(known.z))
		l, shares = append(l, bind.Pair{Node: known.node, D: d, E: e}), append(shares, z)
	}
	group := scene{line: []api.Num{{0x1234567890abcdef, 0x1234567890abcdef}, {77}, negative(api.Num{5})}}.group()
	x, e := gather.New(7, 2, group, "message", l)
	if e != api.OK {
		t.Fatal(e)
	}
	for i, pair := range l {
		answers(t, x, pair.Node, shares[i], i == 2, api.OK)
	}
	sig, e := x.Sig()
	code, _ := schnorr.Encode(sig)
	want := "0238027fbaee218f1786de5ff851e6c107fec997315efb3eb3b7f55c906aa178ba" +
		"c437ea890593c35067bac8f039658fb82bb5dddf21f978fd3ee6cf33190a7535"
	if hex.EncodeToString([]byte(code)) != want || e != api.OK {
		t.Errorf("Sig: %x, %v", code, e)
	}
}

func bytesOf(s string) string {
	out, _ := hex.DecodeString(s)
	return string(out)
}

// 20.1: gatherings of each table, without shares.
func TestNew(t *testing.T) {
	source := rand.New(rand.NewSource(1))
	tables(func(n, f int) {
		for _, m := range []string{"", "m", full} {
			c := sceneOf(source, n, f, m)
			x := c.begin(t)
			lists(t, x, nil, c.nodes)
			noSig(t, x)
		}
	})
}

// 20.1: points behind the first may be at infinity, or the same.
func TestGroups(t *testing.T) {
	for _, line := range [][]api.Num{{{11}, {}}, {{11}, {11}}, {{11}, negative(api.Num{11})}, {negative(api.Num{1}), {1}}} {
		c := plainScene()
		c.line = line
		x, p := c.begin(t), plainOf(c)
		takes(t, x, p, 3, p.right[1])
		takes(t, x, p, 1, p.right[0])
	}
}

// wrongKey is a table and a group that New refuses, or takes.
type wrongKey struct {
	what  string
	n, f  int
	group []api.Point
	want  api.Errno
}

// keys are such.
func keys() []wrongKey {
	two := plainScene().group()
	three := append(slices.Clone(two), g)
	out := []wrongKey{
		{"right", 4, 1, two, api.OK},
		{"n 3", 3, 1, two, api.ErrArg}, {"n 0", 0, 1, two, api.ErrArg}, {"n 11", 11, 1, two, api.ErrArg},
		{"n least", math.MinInt, 1, two, api.ErrArg}, {"n most", math.MaxInt, 1, two, api.ErrArg},
		{"n 0, f 0", 0, 0, two[:1], api.ErrArg}, {"n -1, f -1", -1, -1, nil, api.ErrArg},
		{"f 2", 4, 2, three, api.ErrArg}, {"f -1", 4, -1, nil, api.ErrArg}, {"f -2", 4, -2, two, api.ErrArg},
		{"f most", 4, math.MaxInt, two, api.ErrArg}, {"f least", 4, math.MinInt, two, api.ErrArg},
		{"no group", 4, 1, nil, api.ErrArg}, {"f points", 4, 1, two[:1], api.ErrArg}, {"f + 2", 4, 1, three, api.ErrArg},
		{"f points, at infinity", 4, 1, []api.Point{infinity}, api.ErrArg},
		{"f + 2, none", 4, 1, []api.Point{{}, g, g}, api.ErrArg},
		{"n 3, none", 3, 1, []api.Point{{}, g}, api.ErrArg},
		{"first at infinity", 4, 1, []api.Point{infinity, g}, api.ErrCurve},
		{"all at infinity", 4, 1, []api.Point{infinity, infinity}, api.ErrCurve},
	}
	for _, a := range strangers {
		out = append(out, wrongKey{"stranger first", 4, 1, []api.Point{a, g}, api.ErrCurve})
		out = append(out, wrongKey{"stranger last", 4, 1, []api.Point{g, a}, api.ErrCurve})
		out = append(out, wrongKey{"at infinity, stranger", 4, 1, []api.Point{infinity, a}, api.ErrCurve})
	}
	return out
}

// wrongLists are lists that New refuses, by the error.
func wrongLists() map[api.Errno][][]bind.Pair {
	pair := func(node int) bind.Pair { return bind.Pair{Node: node, D: g, E: timesG(api.Num{9})} }
	inf, stranger := bind.Pair{Node: 3, D: infinity, E: g}, bind.Pair{Node: 3, D: g, E: api.Point{X: g.X}}
	var many []bind.Pair
	for node := 1; node <= 11; node++ {
		many = append(many, pair(node))
	}
	return map[api.Errno][][]bind.Pair{
		api.ErrArg: {
			nil, {}, many, {pair(0), pair(1)}, {pair(-1), pair(1)}, {pair(1), pair(11)}, {pair(3), pair(1)}, {pair(1), pair(1)},
			{inf, pair(1)}, {stranger, pair(3)}, many[:1], many[:3], many[:10], {pair(4)}, {pair(1), pair(5)},
			{pair(4), pair(10)}, {pair(5), pair(6)}, {pair(1), pair(2), pair(5)},
		},
		api.ErrCurve: {
			{pair(1), inf}, {pair(1), stranger}, {stranger}, {inf, pair(4), pair(5)}, {stranger, pair(5)},
			{pair(1), {Node: 5, D: g, E: infinity}}, {{Node: 1}, pair(2)},
		},
	}
}

// 20.1: of several errors the first.
func TestNewErrors(t *testing.T) {
	right := plainScene().list()
	for _, k := range keys() {
		for _, m := range []string{"", full, long, long + long} {
			for e, all := range wrongLists() {
				for _, l := range all {
					want := k.want
					if want == api.OK {
						want = e
					}
					refuses(t, k.what, k.n, k.f, k.group, m, l, want)
				}
			}
			want := k.want
			if want == api.OK && len(m) > api.MaxText {
				want = api.ErrLong
			}
			if want != api.OK {
				refuses(t, k.what, k.n, k.f, k.group, m, right, want)
			}
		}
	}
}

// 20.1: nodes up to n may stand in a list, none above.
func TestNodesUpToN(t *testing.T) {
	c := plainScene()
	for n := 4; n <= 10; n++ {
		for node := 2; node <= 10; node++ {
			c.n, c.nodes = n, []int{1, node}
			if node > n {
				refuses(t, "above n", n, 1, c.group(), c.m, c.list(), api.ErrArg)
				continue
			}
			lists(t, c.begin(t), nil, c.nodes)
		}
	}
}

// 20.2, 20.3: a gathering that is none, nil or not made by New.
func TestNil(t *testing.T) {
	for _, x := range []*gather.Gather{nil, new(gather.Gather)} {
		for _, node := range []int{math.MinInt, -1, 0, 1, 2, 10, 11, math.MaxInt} {
			answers(t, x, node, api.Num{1}, false, api.ErrNone)
			answers(t, x, node, api.Num{}, false, api.ErrNone)
			answers(t, x, node, q, false, api.ErrNone)
		}
		lists(t, x, nil, nil)
		noSig(t, x)
	}
}

// R3: what is handed in is neither changed nor kept, spare room too; what is told is new memory.
func TestMemory(t *testing.T) {
	c := plainScene()
	points, pairs := append(c.group(), g), append(c.list(), bind.Pair{Node: 4, D: g, E: g})
	keptPoints, keptPairs := slices.Clone(points), slices.Clone(pairs)
	x, e := gather.New(4, 1, points[:2], c.m, pairs[:2])
	if e != api.OK || !slices.Equal(points, keptPoints) || !slices.Equal(pairs, keptPairs) {
		t.Fatalf("New: %v; or it changed what was handed in", e)
	}
	points[0], points[1], pairs[0], pairs[1] = g, infinity, bind.Pair{}, bind.Pair{Node: 4, D: g, E: g}
	z := c.right()
	answers(t, x, 3, near(z[1], 1), false, api.ErrShare)
	for range 2 {
		bad, missing := x.Bad(), x.Missing()
		lists(t, x, []int{3}, []int{1})
		bad[0], missing[0] = 2, 2
		_, _ = append(bad, 4), append(missing, 4)
	}
	answers(t, x, 1, z[0], false, api.OK)
	lists(t, x, []int{3}, nil)
}
