package audit_test

import (
	"testing"

	"wardmote/api"
	"wardmote/audit"
	"wardmote/bench"
	"wardmote/bind"
	"wardmote/node"
	"wardmote/schnorr"
	"wardmote/share"
	"wardmote/signer"
)

// tells is what a node of a crew told: its share in a list of pairs, and what that is made of.
func (c *crew) tells(t *testing.T, at int, m string, pairs []bind.Pair, nodes []int, z api.Num) audit.Told {
	t.Helper()
	i := c.nodes[at]
	factor, e := bind.Factor(c.group[0], m, pairs, i)
	if e != api.OK {
		t.Fatal(e)
	}
	r, _ := bind.Group(c.group[0], m, pairs)
	challenge, _ := schnorr.Challenge(r, c.group[0], m)
	weight, _ := share.Weight(nodes, i)
	return audit.Told{Pair: c.pairs[at], Factor: factor, Weight: weight, Challenge: challenge, Z: z}
}

// 28.4: two shares of one nonce that is bound the same give the share of the key away, whatever else is unlike.
func TestGivenAway(t *testing.T) {
	source := newSource(8)
	for n := 1; n <= 10; n++ {
		c := crewOf(t, source, n, mostFail[n], "m")
		for at, i := range c.nodes {
			x := c.key(i).Share
			a := c.tells(t, at, c.m, c.pairs, c.nodes, c.right[at])
			// What it is but for the key: the nonce, bound. Another challenge is added to it.
			nonce := plus(a.Z, times(last, times(times(a.Weight, a.Challenge), x)))
			b := a
			b.Weight, b.Challenge = times(a.Weight, api.Num{uint64(1 + at)}), api.Num{source.Uint64()}
			b.Z = plus(nonce, times(times(b.Weight, b.Challenge), x))
			leaks(t, a, b, x, api.OK)
			finds(t, []audit.Told{a, a, b, b}, i, x, true)
			// Each of what it is made of counts.
			for k := range 4 {
				other := b
				*numbers(&other)[k] = plus(*numbers(&other)[k], api.Num{1})
				if got, e := audit.Leak(a, other); got == x {
					t.Errorf("with another number %d: %v, %v", k, got, e)
				}
			}
		}
	}
}

// 28.4: a signer that draws its nonces anew, as a signer must not, binds them otherwise in another list: this alone gives
// nothing away; what it told twice is found all the same.
func TestBoundOtherwise(t *testing.T) {
	c := crewOf(t, newSource(9), 4, 1, "m")
	s, _ := signer.New(c.key(c.nodes[0]), "seed", 0)
	s.Issue()
	z, e := s.Sign(1, "n", c.pairs)
	if e != api.OK {
		t.Fatal(e)
	}
	a, b := c.tells(t, 0, "m", c.pairs, c.nodes, c.right[0]), c.tells(t, 0, "n", c.pairs, c.nodes, z)
	leaks(t, a, b, api.Num{}, api.ErrArg)
	finds(t, []audit.Told{a, b}, 0, api.Num{}, false)
	twice(t, []node.Emit{{Pair: a.Pair, Challenge: a.Challenge}, {Pair: b.Pair, Challenge: b.Challenge}}, 0, 1, true)
}

// P2: nodes of a bench tell no two shares of one nonce, whatever becomes of their letters and their power.
func TestBench(t *testing.T) {
	source := newSource(10)
	b, e := bench.New(4, 1, "seed", 0)
	if e != api.OK {
		t.Fatal(e)
	}
	for id := range 120 {
		i := 1 + source.Intn(4)
		b.Step(api.Choice{Kind: api.DoSubmit, Node: i, ID: 1 + id, M: "m"})
		b.Step(api.Choice{Kind: api.DoRound, N: source.Intn(3)})
		b.Step(api.Choice{Kind: api.DoTick, Node: 1 + source.Intn(4)})
		b.Step(api.Choice{Kind: api.DoAgain, N: source.Intn(9)})
		b.Step(api.Choice{Kind: api.DoLose, N: source.Intn(9)})
		if source.Intn(4) == 0 {
			b.Step(api.Choice{Kind: api.DoDown, Node: i, N: source.Intn(60), Mask: source.Intn(256)})
		}
		b.Step(api.Choice{Kind: api.DoStart, Node: i})
	}
	var all []node.Emit
	for i := range 4 {
		all = append(all, b.Emits(i+1)...)
	}
	if len(all) < 100 {
		t.Errorf("%d shares were told", len(all))
	}
	twice(t, all, 0, 0, false)
	distinct(t, all, len(all))
	twice(t, append(all, node.Emit{Pair: all[50].Pair}), 50, len(all), true)
}
