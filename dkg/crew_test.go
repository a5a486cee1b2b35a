package dkg_test

import (
	"slices"
	"testing"

	"wardmote/api"
	"wardmote/dkg"
	"wardmote/share"
)

// tables goes through all tables.
func tables(do func(n, f int)) {
	for n := 1; n <= 10; n++ {
		for f := range mostFail[n] + 1 {
			do(n, f)
		}
	}
}

// seeds are those of the nodes, by their places.
var seeds = []string{"a", "b", "c", "d", "e", "f", "g", "h", "i", "j"}

// begin is a node ahead of round 0.
func begin(t *testing.T, n, f, self int, seed string) *dkg.Node {
	t.Helper()
	x, e := dkg.New(n, f, self, seed)
	if x == nil || e != api.OK {
		t.Fatalf("New(%d, %d, %d, %q): %v, %v", n, f, self, seed, x, e)
	}
	return x
}

// hears has a node go through a round.
func hears(t *testing.T, x *dkg.Node, told []string) {
	t.Helper()
	if e := x.Hear(told); e != api.OK {
		t.Fatalf("Hear: %v", e)
	}
}

// rounds looks for how many rounds a node went through, of how many.
func rounds(t *testing.T, x *dkg.Node, want, all int) {
	t.Helper()
	if got := x.Round(); got != want {
		t.Fatalf("Round: %d, not %d", got, want)
	}
	if got := x.Rounds(); got != all {
		t.Fatalf("Rounds: %d, not %d", got, all)
	}
}

// sameKey tells whether two keys are the same.
func sameKey(a, b dkg.Key) bool {
	return a.N == b.N && a.F == b.F && a.Self == b.Self && a.Share == b.Share && a.Public == b.Public &&
		slices.Equal(a.Group, b.Group) && slices.Equal(a.Dealers, b.Dealers)
}

// hasKey looks for a node's key; of one that has none all is zero (R4).
func hasKey(t *testing.T, x *dkg.Node, want dkg.Key, is bool) {
	t.Helper()
	got, has := x.Key()
	if has != is || !sameKey(got, want) {
		t.Fatalf("Key: %v, %v, not %v, %v", got, has, want, is)
	}
}

// like looks for whether a node is as a plain one.
func like(t *testing.T, x *dkg.Node, p *plain) {
	t.Helper()
	rounds(t, x, len(p.told), p.rounds())
	if got, want := x.Send(), p.send(); !slices.Equal(got, want) {
		t.Fatalf("node %d of %d, %d: round %d: Send: %x, not %x", p.self, p.n, p.f, len(p.told), got, want)
	}
	key, is := p.key()
	hasKey(t, x, key, is)
}

// crew are nodes, of which some fail: what these tell is changed on its way.
type crew struct {
	n, f   int
	nodes  []*dkg.Node
	plains []*plain
	fails  []int // rising
}

// tamper is what a node that fails tells another one in a round, when it would have told a text.
type tamper func(round, from, to int, text string) string

// form is a crew ahead of round 0.
func form(t *testing.T, n, f int, fails ...int) *crew {
	t.Helper()
	c := &crew{n: n, f: f, fails: fails}
	for i := range n {
		c.nodes = append(c.nodes, begin(t, n, f, i+1, seeds[i]))
		c.plains = append(c.plains, &plain{n: n, f: f, self: i + 1, seed: seeds[i]})
	}
	return c
}

// step has a crew go through a round; all that do as told are held against plain ones. What each node heard is told.
func (c *crew) step(t *testing.T, change tamper) [][]string {
	t.Helper()
	var sent, heard [][]string
	for _, x := range c.nodes {
		sent = append(sent, x.Send())
	}
	for i, x := range c.nodes {
		var told []string
		for from, texts := range sent {
			text := texts[i]
			if slices.Contains(c.fails, from+1) {
				text = change(x.Round(), from+1, i+1, text)
			}
			told = append(told, text)
		}
		hears(t, x, told)
		heard = append(heard, told)
		c.plains[i].told = append(c.plains[i].told, told)
	}
	for i, x := range c.nodes {
		if !slices.Contains(c.fails, i+1) {
			like(t, x, c.plains[i])
		}
	}
	return heard
}

// run has a crew go through all rounds.
func (c *crew) run(t *testing.T, change tamper) *crew {
	t.Helper()
	for range 6 + 3*(c.f+1) {
		c.step(t, change)
	}
	return c
}

// honest are the nodes that do as told.
func (c *crew) honest() []int {
	var out []int
	for node := 1; node <= c.n; node++ {
		if !slices.Contains(c.fails, node) {
			out = append(out, node)
		}
	}
	return out
}

// oneKey looks for whether all that do as told have one key, and what it tells; or none has one. It is that key's dealers.
func (c *crew) oneKey(t *testing.T) []int {
	t.Helper()
	honest := c.honest()
	first, is := c.nodes[honest[0]-1].Key()
	if !is {
		for _, node := range honest {
			hasKey(t, c.nodes[node-1], dkg.Key{}, false)
		}
		return nil
	}
	var shares []api.Num
	for _, node := range honest {
		key, is := c.nodes[node-1].Key()
		if !is || key.N != c.n || key.F != c.f || key.Self != node || len(key.Group) != c.f+1 {
			t.Fatalf("node %d: %v, %v", node, key, is)
		}
		if key.Public != key.Group[0] || key.Public.Inf || !slices.Equal(key.Dealers, first.Dealers) ||
			!slices.Equal(key.Group, first.Group) {
			t.Fatalf("node %d: %v, another one %v", node, key, first)
		}
		if !isShare(key.Group, node, key.Share) {
			t.Fatalf("node %d: its share is not checked by the group: %v", node, key)
		}
		shares = append(shares, key.Share)
	}
	oneSecret(t, honest, shares, c.f+1, first.Public)
	return first.Dealers
}

// oneSecret looks for whether any so many shares tell one secret, whose point is the public one.
func oneSecret(t *testing.T, nodes []int, shares []api.Num, count int, public api.Point) {
	t.Helper()
	var secret api.Num
	for set := range 1 << len(nodes) {
		var some []int
		var theirs []api.Num
		for i := range nodes {
			if set>>i&1 == 1 {
				some, theirs = append(some, nodes[i]), append(theirs, shares[i])
			}
		}
		if len(some) != count {
			continue
		}
		got, e := share.Join(some, theirs, api.Num{})
		if e != api.OK || secret != (api.Num{}) && got != secret {
			t.Fatalf("nodes %v: %v, %v, others %v", some, got, e, secret)
		}
		secret = got
	}
	if timesG(secret) != public {
		t.Fatalf("the secret's point is %v, not %v", timesG(secret), public)
	}
}

// dealers looks for a crew's dealers.
func (c *crew) dealers(t *testing.T, want ...int) {
	t.Helper()
	if got := c.oneKey(t); !slices.Equal(got, want) {
		t.Fatalf("dealers %v, not %v", got, want)
	}
}

// history is what each node hears of an all honest crew, by round, and by the node that hears.
func history(t *testing.T, n, f int) [][][]string {
	t.Helper()
	c := form(t, n, f)
	var out [][][]string
	for range 6 + 3*(f+1) {
		out = append(out, c.step(t, nil))
	}
	return out
}
