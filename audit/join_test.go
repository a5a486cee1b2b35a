package audit_test

import (
	"math/rand"
	"slices"
	"strings"
	"testing"

	"wardmote/api"
	"wardmote/audit"
	"wardmote/bind"
	"wardmote/dkg"
	"wardmote/feld"
	"wardmote/schnorr"
	"wardmote/share"
	"wardmote/signer"
)

// mostFail is by n the greatest f with 3 f < n.
var mostFail = [...]int{1: 0, 2: 0, 3: 0, 4: 1, 5: 1, 6: 1, 7: 2, 8: 2, 9: 2, 10: 3}

// A crew is those that sign a message together: their key, pairs and right shares.
type crew struct {
	n, f  int
	m     string
	line  []api.Num
	group []api.Point
	nodes []int
	pairs []bind.Pair
	right []api.Num
}

// crewOf is one of a table, whose nodes are drawn.
func crewOf(t *testing.T, source *rand.Rand, n, f int, m string) *crew {
	t.Helper()
	c := &crew{n: n, f: f, m: m, nodes: source.Perm(n)[:f+1]}
	for i := range c.nodes {
		c.nodes[i]++
		c.line = append(c.line, api.Num{source.Uint64(), source.Uint64(), source.Uint64(), 1})
	}
	slices.Sort(c.nodes)
	c.group, _ = feld.Commit(c.line)
	var signers []*signer.Signer
	for _, i := range c.nodes {
		s, e := signer.New(c.key(i), "seed", 0)
		if e != api.OK {
			t.Fatal(e)
		}
		_, p, _ := s.Issue()
		signers, c.pairs = append(signers, s), append(c.pairs, p)
	}
	for _, s := range signers {
		z, e := s.Sign(1, m, c.pairs)
		if e != api.OK {
			t.Fatal(e)
		}
		c.right = append(c.right, z)
	}
	return c
}

// key is a node's.
func (c *crew) key(i int) dkg.Key {
	x, _ := share.Eval(c.line, i)
	return dkg.Key{N: c.n, F: c.f, Self: i, Share: x, Public: c.group[0], Group: c.group}
}

// join has shares joined.
func (c *crew) join(z []api.Num) (api.Sig, []int, api.Errno) {
	return audit.Join(c.n, c.f, c.group, c.m, c.pairs, z)
}

// refuses looks for an error beside which nothing is told.
func (c *crew) refuses(t *testing.T, z []api.Num, want api.Errno) {
	t.Helper()
	if s, bad, e := c.join(z); s != (api.Sig{}) || len(bad) != 0 || e != want {
		t.Errorf("Join(%d, %d, %d points, %d bytes, %d pairs, %d numbers): %v, %v, %v, not %v",
			c.n, c.f, len(c.group), len(c.m), len(c.pairs), len(z), s, bad, e, want)
	}
}

// finds looks for the nodes whose shares are wrong.
func (c *crew) finds(t *testing.T, z []api.Num, want ...int) {
	t.Helper()
	if s, bad, e := c.join(z); s != (api.Sig{}) || !slices.Equal(bad, want) || e != api.ErrShare {
		t.Errorf("Join of nodes %v: %v, %v, %v, not %v", c.nodes, s, bad, e, want)
	}
}

// holds looks for a signature that holds.
func (c *crew) holds(t *testing.T, z []api.Num) {
	t.Helper()
	s, bad, e := c.join(z)
	if len(bad) != 0 || e != api.OK || schnorr.Verify(c.group[0], c.m, s) != api.OK {
		t.Errorf("Join of nodes %v: %v, %v, %v", c.nodes, s, bad, e)
	}
	r, _ := bind.Group(c.group[0], c.m, c.pairs)
	if want := (api.Sig{R: r, Z: plus(z...)}); s != want {
		t.Errorf("Join of nodes %v: %v, not %v", c.nodes, s, want)
	}
}

// 28.3, 28.5: in each table right shares make a signature that holds; whichever are wrong, they are found.
func TestJoin(t *testing.T) {
	source := newSource(3)
	for n := 1; n <= 10; n++ {
		for f := range mostFail[n] + 1 {
			c := crewOf(t, source, n, f, strings.Repeat("m", source.Intn(9)))
			c.holds(t, c.right)
			for set := 1; set < 1<<(f+1); set++ {
				z := slices.Clone(c.right)
				var want []int
				for i, node := range c.nodes {
					if set>>i&1 == 1 {
						z[i] = plus(z[i], api.Num{1 + source.Uint64()>>1})
						want = append(want, node)
					}
				}
				c.finds(t, z, want...)
			}
		}
	}
}

// 28.3: numbers that are no share of the node: no scalars, another node's, the negative.
func TestJoinWrong(t *testing.T) {
	c := crewOf(t, newSource(4), 10, 3, strings.Repeat("m", api.MaxText))
	c.holds(t, c.right)
	for i, node := range c.nodes {
		wrong := append(slices.Clone(greats), api.Num{}, times(last, c.right[i]), plus(c.right[i], last), c.right[(i+1)%4])
		for _, n := range wrong {
			z := slices.Clone(c.right)
			z[i] = n
			c.finds(t, z, node)
		}
	}
	z := []api.Num{c.right[1], c.right[0], c.right[2], c.right[3]}
	c.finds(t, z, c.nodes[0], c.nodes[1])
	// The sum of wrong ones may be right.
	z = []api.Num{plus(c.right[0], api.Num{1}), plus(c.right[1], last), c.right[2], c.right[3]}
	c.finds(t, z, c.nodes[0], c.nodes[1])
	c.finds(t, make([]api.Num, 4), c.nodes...)
	c.finds(t, []api.Num{q, most, q, p}, c.nodes...)
}

// 28.3: there are as many numbers as pairs.
func TestJoinCount(t *testing.T) {
	c := crewOf(t, newSource(5), 4, 1, "m")
	for _, z := range [][]api.Num{nil, {}, c.right[:1], c.right[1:], append(slices.Clone(c.right), api.Num{}), make([]api.Num, 1000),
		append(slices.Clone(c.right), c.right...), {q}, {q, q, q}} {
		c.refuses(t, z, api.ErrArg)
	}
}

// 28.3: gather.New's error, ahead of how many numbers there are.
func TestJoinErrors(t *testing.T) {
	source := newSource(6)
	good := crewOf(t, source, 4, 1, "m")
	off := g
	off.X[0]++
	changes := map[string]struct {
		do   func(c *crew)
		want api.Errno
	}{
		"no table":           {func(c *crew) { c.n = 3 }, api.ErrArg},
		"no node":            {func(c *crew) { c.n = 0 }, api.ErrArg},
		"too many nodes":     {func(c *crew) { c.n = 11 }, api.ErrArg},
		"f below 0":          {func(c *crew) { c.f = -1 }, api.ErrArg},
		"another f":          {func(c *crew) { c.f = 0 }, api.ErrArg},
		"no points":          {func(c *crew) { c.group = nil }, api.ErrArg},
		"a point more":       {func(c *crew) { c.group = append(slices.Clone(c.group), g) }, api.ErrArg},
		"a point beside":     {func(c *crew) { c.group = []api.Point{c.group[0], off} }, api.ErrCurve},
		"infinity first":     {func(c *crew) { c.group = []api.Point{{Inf: true}, c.group[1]} }, api.ErrCurve},
		"no pairs":           {func(c *crew) { c.pairs = nil }, api.ErrArg},
		"a pair more":        {func(c *crew) { c.pairs = []bind.Pair{pair(1, 1, 2), pair(2, 1, 2), pair(3, 1, 2)} }, api.ErrArg},
		"a pair less":        {func(c *crew) { c.pairs = c.pairs[:1] }, api.ErrArg},
		"pairs that fall":    {func(c *crew) { c.pairs = []bind.Pair{c.pairs[1], c.pairs[0]} }, api.ErrArg},
		"a pair twice":       {func(c *crew) { c.pairs = []bind.Pair{c.pairs[0], c.pairs[0]} }, api.ErrArg},
		"a node above n":     {func(c *crew) { c.pairs = []bind.Pair{c.pairs[0], pair(5, 1, 2)} }, api.ErrArg},
		"a pair of no point": {func(c *crew) { c.pairs = []bind.Pair{c.pairs[0], {Node: 4, D: off, E: g}} }, api.ErrCurve},
		"a long message":     {func(c *crew) { c.m = strings.Repeat("m", api.MaxText+1) }, api.ErrLong},
	}
	for name, change := range changes {
		c := *good
		change.do(&c)
		for _, z := range [][]api.Num{nil, good.right, good.right[:1], {q, q}, make([]api.Num, len(c.pairs))} {
			t.Run(name, func(t *testing.T) { c.refuses(t, z, change.want) })
		}
	}
	good.holds(t, good.right)
}

// R3: what is handed in is not changed, spare room too.
func TestJoinKeeps(t *testing.T) {
	c := crewOf(t, newSource(7), 7, 2, "m")
	z := append(slices.Clone(c.right), api.Num{77})
	pairs, group := append(slices.Clone(c.pairs), pair(9, 1, 2)), append(slices.Clone(c.group), g)
	wasZ, wasPairs, wasGroup := slices.Clone(z), slices.Clone(pairs), slices.Clone(group)
	c.pairs, c.group = pairs[:3], group[:3]
	c.holds(t, z[:3])
	z[1] = api.Num{1}
	wasZ[1] = z[1]
	c.finds(t, z[:3], c.nodes[1])
	if !slices.Equal(z, wasZ) || !slices.Equal(pairs, wasPairs) || !slices.Equal(group, wasGroup) {
		t.Error("something was changed")
	}
	_, bad, _ := c.join(z[:3])
	clear(bad[:cap(bad)])
	c.finds(t, z[:3], c.nodes[1])
}
