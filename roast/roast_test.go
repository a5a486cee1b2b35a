package roast_test

import (
	"encoding/hex"
	"math"
	"slices"
	"testing"

	"wardmote/api"
	"wardmote/bind"
	"wardmote/curve"
	"wardmote/limb"
	"wardmote/roast"
	"wardmote/schnorr"
)

// says looks for an error, or OK, that was told.
func says(t *testing.T, got, want api.Errno) {
	t.Helper()
	if got != want {
		t.Fatalf("%v, not %v", got, want)
	}
}

// 21.2, 21.3: the document's example.
func TestExample(t *testing.T) {
	x := rigOf(t, 4, 1, "m")
	says(t, x.begin(pairOf(1, 1)), api.OK)
	x.is(nil, nil, 0)
	says(t, x.begin(pairOf(2, 2)), api.OK)
	x.is(nil, []int{1, 2}, 1)
	says(t, x.share(1, 1, x.right(1), pairOf(1, 3)), api.OK)
	x.is(nil, []int{2}, 1)
	says(t, x.begin(pairOf(3, 4)), api.OK)
	x.is(nil, []int{1, 2, 3}, 2)
	if l := x.p.sittings[1].l; l[0] != pairOf(1, 3) || l[1] != pairOf(3, 4) {
		t.Errorf("session 2: %v", l)
	}
}

// 21.1: coordinators of each table, of whose nodes none answered.
func TestNew(t *testing.T) {
	tables(func(n, f int) {
		for _, m := range []string{"", "m", full} {
			x := rigOf(t, n, f, m)
			x.is(nil, nil, 0)
			for node := 1; node <= f; node++ {
				says(t, x.begin(pairOf(node, node)), api.OK)
				x.is(nil, nil, 0)
			}
			says(t, x.begin(pairOf(n, 0)), api.OK)
		}
	})
}

// 21.1: points behind the first may be at infinity, or the same.
func TestGroups(t *testing.T) {
	for _, group := range [][]api.Point{{g, infinity}, {g, g}, {timesG(drawn(1)), infinity}} {
		if r, e := roast.New(4, 1, group, "m"); r == nil || e != api.OK {
			t.Errorf("New: %v, %v", r, e)
		}
	}
}

// 21.1: of several errors the first: the table or the number of points, a point, the message.
func TestNewErrors(t *testing.T) {
	two := groupOf(lineOf(1))
	three := append(slices.Clone(two), g)
	type key struct {
		what  string
		n, f  int
		group []api.Point
		want  api.Errno
	}
	keys := []key{
		{"right", 4, 1, two, api.OK}, {"right", 10, 1, two, api.OK},
		{"n 3", 3, 1, two, api.ErrArg}, {"n 0", 0, 1, two, api.ErrArg}, {"n 11", 11, 1, two, api.ErrArg},
		{"n least", math.MinInt, 1, two, api.ErrArg}, {"n most", math.MaxInt, 1, two, api.ErrArg},
		{"n 0, f 0", 0, 0, two[:1], api.ErrArg}, {"n -1, f -1", -1, -1, nil, api.ErrArg},
		{"f 2", 4, 2, three, api.ErrArg}, {"f -1", 4, -1, nil, api.ErrArg}, {"f -2", 4, -2, two, api.ErrArg},
		{"f most", 4, math.MaxInt, two, api.ErrArg}, {"f least", 4, math.MinInt, two, api.ErrArg},
		{"no group", 4, 1, nil, api.ErrArg}, {"f points", 4, 1, two[:1], api.ErrArg}, {"f + 2", 4, 1, three, api.ErrArg},
		{"f points, at infinity", 4, 1, []api.Point{infinity}, api.ErrArg},
		{"f + 2, none", 4, 1, []api.Point{{}, g, g}, api.ErrArg}, {"n 3, none", 3, 1, []api.Point{{}, g}, api.ErrArg},
		{"first at infinity", 4, 1, []api.Point{infinity, g}, api.ErrCurve},
		{"all at infinity", 4, 1, []api.Point{infinity, infinity}, api.ErrCurve},
	}
	for _, a := range strangers {
		keys = append(keys, key{"stranger first", 4, 1, []api.Point{a, g}, api.ErrCurve})
		keys = append(keys, key{"stranger last", 4, 1, []api.Point{g, a}, api.ErrCurve})
		keys = append(keys, key{"at infinity, stranger", 4, 1, []api.Point{infinity, a}, api.ErrCurve})
	}
	for _, k := range keys {
		for _, m := range []string{"", full, long, long + long} {
			want := k.want
			if want == api.OK && len(m) > api.MaxText {
				want = api.ErrLong
			}
			r, e := roast.New(k.n, k.f, k.group, m)
			if (r != nil) != (want == api.OK) || e != want {
				t.Errorf("New, %s, %d bytes: %v, %v, not %v", k.what, len(m), r, e, want)
			}
		}
	}
}

// 21.2 to 21.4: a coordinator that is none, nil or not made by New: ErrState ahead of ErrArg; nothing.
func TestNil(t *testing.T) {
	for _, r := range []*roast.Roast{nil, new(roast.Roast)} {
		for _, node := range []int{math.MinInt, -1, 0, 1, 2, 10, 11, math.MaxInt} {
			for _, pair := range []bind.Pair{pairOf(node, 1), {Node: node}, {Node: node, D: infinity, E: g}} {
				if s, is, e := r.Begin(pair); s.Number != 0 || s.L != nil || is || e != api.ErrState {
					t.Errorf("Begin of %d: %v, %v, %v", node, s, is, e)
				}
				for _, session := range []int{-1, 0, 1, 2} {
					s, is, e := r.Share(session, node, api.Num{1}, pair)
					if s.Number != 0 || s.L != nil || is || e != api.ErrState {
						t.Errorf("Share(%d, %d): %v, %v, %v", session, node, s, is, e)
					}
				}
			}
			if was, e := r.Fail(node); was || e != api.ErrArg {
				t.Errorf("Fail(%d): %v, %v", node, was, e)
			}
		}
		looks(t, r, nil, nil, 0, api.Sig{}, false)
	}
}

// R3: what is handed in is neither changed nor kept, spare room too; what is told is new memory.
func TestMemory(t *testing.T) {
	x := rigOf(t, 4, 1, "m")
	points := append(groupOf(x.p.line), g)
	kept := slices.Clone(points)
	var e api.Errno
	x.r, e = roast.New(4, 1, points[:2], "m")
	says(t, e, api.OK)
	if !slices.Equal(points, kept) {
		t.Fatal("New changed what was handed in")
	}
	points[0], points[1] = infinity, api.Point{}
	x.begin(pairOf(1, 1))
	s, is, e := x.r.Begin(pairOf(3, 2))
	if want, _, _ := x.p.begin(pairOf(3, 2)); !is || e != api.OK || !slices.Equal(s.L, want.L) {
		t.Fatalf("Begin: %v, %v, %v", s, is, e)
	}
	for i := range s.L[:cap(s.L)] {
		s.L[:cap(s.L)][i] = bind.Pair{Node: 2, D: g, E: g}
	}
	says(t, x.share(1, 3, near(x.right(3)), bind.Pair{}), api.ErrShare)
	for range 2 {
		bad, busy := x.r.Bad(), x.r.Busy()
		x.is([]int{3}, []int{1}, 1)
		for i := range bad[:cap(bad)] {
			bad[:cap(bad)][i] = 2
		}
		for i := range busy[:cap(busy)] {
			busy[:cap(busy)][i] = 2
		}
	}
	says(t, x.share(1, 1, x.right(1), pairOf(1, 3)), api.OK)
	says(t, x.begin(pairOf(4, 4)), api.OK)
	says(t, x.share(2, 4, x.right(4), pairOf(4, 5)), api.OK)
	says(t, x.share(2, 1, x.right(1), pairOf(1, 6)), api.OK)
	if sig, is := x.r.Done(); !is || schnorr.Verify(groupOf(x.p.line)[0], "m", sig) != api.OK {
		t.Errorf("Done: %v, %v", sig, is)
	}
}

// pointOf is a point of hex digits.
func pointOf(s string) api.Point {
	code, _ := hex.DecodeString(s)
	out, _ := curve.Decode(string(code))
	return out
}

// numOf is a number of hex digits.
func numOf(s string) api.Num {
	code, _ := hex.DecodeString(s)
	out, _ := limb.FromBytes(string(code))
	return out
}

// 21.2, 21.3: what another program reckoned: node 2 tells nothing, so that the second session, of 1 and 4, is the one.
func TestKnownSignature(t *testing.T) {
	group := []api.Point{
		pointOf("020a1fc1183e4e80e45544958e185e23e816702a0f9400e1ef30bc6546e7b481b1"),
		pointOf("02acd484e2f0c7f65309ad178a9f559abde09796974c57e714c35f110dfc27ccbe"),
	}
	one := bind.Pair{
		Node: 1,
		D:    pointOf("027592aab5d43618dda13fba71e3993cd7517a712d3da49664c06ee1bd3d1f70af"),
		E:    pointOf("02e5740e63bad28081ed7cf654dd6c19029ca03382fc05ab5f5dda81f2c55b845b"),
	}
	two := bind.Pair{
		Node: 2,
		D:    pointOf("02cdc14371b1cc34957500620c8c5203f98b453cca280b314059f19b9fbc6a7d89"),
		E:    pointOf("029439eca8abc5d3a5de98209379fb860ad8166f93b3aca0691dc845f186b1226a"),
	}
	next := bind.Pair{
		Node: 1,
		D:    pointOf("037d238d2605fffee06a3c8d1b786f6fd74bed97e079b12023eaf2364f314c228b"),
		E:    pointOf("03c6047f9441ed7d6d3045406e95c07cd85c778e4b8cef3ca7abac09b95c709ee5"),
	}
	four := bind.Pair{
		Node: 4,
		D:    pointOf("02d29ec8a897eb7ea8adcd8f243f1057fbb47028fc60ad96e6c77aa6b8bf66ec52"),
		E:    pointOf("0271550e6c83a9381f35c568d1a80e11fa3e0efc97dfd0e0f17492a2edb64c37a9"),
	}
	r, e := roast.New(4, 1, group, "roast")
	says(t, e, api.OK)
	told := func(want []bind.Pair) func(s roast.Session, is bool, e api.Errno) {
		return func(s roast.Session, is bool, e api.Errno) {
			t.Helper()
			if !slices.Equal(s.L, want) || is != (want != nil) || e != api.OK {
				t.Fatalf("%v, %v, %v, not %v", s, is, e, want)
			}
		}
	}
	told(nil)(r.Begin(two))
	told([]bind.Pair{one, two})(r.Begin(one))
	z := numOf("c068d5cb30428fd524c10f7e41e4a600b86fecc9de69a5151ac292c3f9b12606")
	told(nil)(r.Share(1, 1, z, next))
	told([]bind.Pair{next, four})(r.Begin(four))
	z = numOf("b8f0b763af98b3fb744f95d48fec5839d81887de030afd87916bbac311af9430")
	told(nil)(r.Share(2, 4, z, four))
	z = numOf("0780f9fc17bd98da17d61c2de4c6d883f744d59187f7fe6023f5ccc0e54c70ce")
	told(nil)(r.Share(2, 1, z, one))
	sig, is := r.Done()
	code, _ := schnorr.Encode(sig)
	want := "02a5ac534ad77b8b7502a4b58ab14f420fe2fd755a50a4358c789401ef09ab600c" +
		"c071b15fc7564cd58c25b20274b330bdcf5d5d6f8b02fbe7b5618783f6fc04fe"
	if hex.EncodeToString([]byte(code)) != want || !is {
		t.Errorf("Done: %x, %v", code, is)
	}
}
