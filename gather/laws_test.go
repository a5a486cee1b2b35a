package gather_test

import (
	"math/rand"
	"slices"
	"testing"

	"wardmote/api"
	"wardmote/bind"
	"wardmote/dkg"
	"wardmote/feld"
	"wardmote/gather"
	"wardmote/schnorr"
	"wardmote/signer"
)

// orders are all orders of so many.
func orders(count int) [][]int {
	if count == 0 {
		return [][]int{nil}
	}
	var out [][]int
	for _, order := range orders(count - 1) {
		for at := range count {
			out = append(out, slices.Insert(slices.Clone(order), at, count-1))
		}
	}
	return out
}

// 20.2, 20.3: in any order of shares, whichever are wrong, a gathering is as a plain one.
func TestAnyOrder(t *testing.T) {
	source := rand.New(rand.NewSource(4))
	for f := range 3 {
		c := sceneOf(source, 3*f+1+source.Intn(2), f, "m")
		for _, order := range orders(f + 1) {
			for wrong := range 1 << (f + 1) {
				x, p := c.begin(t), plainOf(c)
				like(t, x, p)
				for _, at := range order {
					z := p.right[at]
					if wrong>>at&1 == 1 {
						z = near(z, 1)
					}
					takes(t, x, p, c.nodes[at], z)
				}
			}
		}
	}
}

// 20.2, 20.3: whatever is handed in, in the name of whichever node, a gathering is as a plain one.
func TestAnyShares(t *testing.T) {
	source := rand.New(rand.NewSource(5))
	tables(func(n, f int) {
		for range 6 {
			c := sceneOf(source, n, f, "m")
			x, p := c.begin(t), plainOf(c)
			for range 3 * (f + 1) {
				node, z := source.Intn(n+2), p.right[source.Intn(f+1)]
				if at := slices.Index(c.nodes, node); at >= 0 && source.Intn(3) > 0 {
					z = p.right[at]
				}
				if source.Intn(12) == 0 {
					z = greats[source.Intn(len(greats))]
				}
				takes(t, x, p, node, z)
			}
		}
	})
}

// 20.4: a signature that is told holds, for the public point and the message, whatever else was handed in.
func TestSigHolds(t *testing.T) {
	source := rand.New(rand.NewSource(6))
	tables(func(n, f int) {
		for _, m := range []string{"", "m", full} {
			c := sceneOf(source, n, f, m)
			x, z := c.begin(t), c.right()
			for i, node := range c.nodes {
				x.Take(node, z[i])
				x.Take(node, near(z[i], 1))
				x.Take(node, q)
				x.Take(n+1, z[i])
			}
			sig, e := x.Sig()
			if e != api.OK || schnorr.Verify(timesG(c.line[0]), m, sig) != api.OK {
				t.Fatalf("nodes %v of %d, %d: %v, %v", c.nodes, n, f, sig, e)
			}
			if e := schnorr.Verify(timesG(c.line[0]), m[:len(m)/2]+"!", sig); e != api.ErrSign {
				t.Fatalf("another message: %v", e)
			}
		}
	})
}

// 20.5: a node that does as told is not bad, although others hand its share in, wrongly, in their own names, ahead of it
// or behind it; and these are bad.
func TestOthersNames(t *testing.T) {
	source := rand.New(rand.NewSource(7))
	for range 4 {
		c := sceneOf(source, 10, 3, "m")
		z := c.right()
		for at, node := range c.nodes {
			for when := range c.nodes {
				x := c.begin(t)
				var bad []int
				for i, other := range c.nodes {
					if i == when {
						answers(t, x, node, z[at], false, api.OK)
					}
					if i != at {
						answers(t, x, other, z[at], false, api.ErrShare)
						bad = append(bad, other)
					}
				}
				lists(t, x, bad, nil)
				noSig(t, x)
			}
		}
	}
}

// crew are signers of a key, of which some sign a message together.
type crew struct {
	group   []api.Point
	signers []*signer.Signer
}

// crewOf is one of a polynomial.
func crewOf(t *testing.T, n int, line []api.Num) crew {
	t.Helper()
	group, _ := feld.Commit(line)
	out := crew{group: group}
	for self := 1; self <= n; self++ {
		k := dkg.Key{N: n, F: len(line) - 1, Self: self, Public: group[0], Group: group}
		k.Share = scalarOf(scene{line: line}.value(self))
		s, e := signer.New(k, string(rune('a'+self)), 0)
		if e != api.OK {
			t.Fatal(e)
		}
		out.signers = append(out.signers, s)
	}
	return out
}

// sign are a list of pairs, and the shares of its nodes.
func (c crew) sign(t *testing.T, m string, nodes []int) ([]bind.Pair, []api.Num) {
	t.Helper()
	var l []bind.Pair
	var numbers []int
	for _, node := range nodes {
		number, pair, _ := c.signers[node-1].Issue()
		l, numbers = append(l, pair), append(numbers, number)
	}
	var shares []api.Num
	for i, node := range nodes {
		z, e := c.signers[node-1].Sign(numbers[i], m, l)
		if e != api.OK {
			t.Fatalf("node %d: %v", node, e)
		}
		shares = append(shares, z)
	}
	return l, shares
}

// 20.4, 20.5: what signers tell is right, in each session; what they told in another one, or of another message, is not.
func TestSigners(t *testing.T) {
	source := rand.New(rand.NewSource(8))
	tables(func(n, f int) {
		c := crewOf(t, n, sceneOf(source, n, f, "").line)
		for range 3 {
			nodes := sceneOf(source, n, f, "").nodes
			l, shares := c.sign(t, "m", nodes)
			_, others := c.sign(t, "m", nodes)
			_, strange := c.sign(t, "n", nodes)
			right, e := gather.New(n, f, c.group, "m", l)
			if e != api.OK {
				t.Fatal(e)
			}
			wrong, _ := gather.New(n, f, c.group, "m", l)
			for i, node := range nodes {
				answers(t, right, node, shares[i], i == f, api.OK)
				answers(t, wrong, node, [][]api.Num{others, strange}[i%2][i], false, api.ErrShare)
			}
			lists(t, right, nil, nil)
			lists(t, wrong, nodes, nil)
			sig, e := right.Sig()
			if e != api.OK || schnorr.Verify(c.group[0], "m", sig) != api.OK {
				t.Fatalf("nodes %v of %d, %d: %v, %v", nodes, n, f, sig, e)
			}
		}
	})
}
