package gather_test

import (
	"math"
	"math/big"
	"math/rand"
	"testing"

	"wardmote/api"
)

// 20.2: a node that is not in the list, whatever z is; nothing is changed.
func TestNotInList(t *testing.T) {
	c := plainScene()
	x, p := c.begin(t), plainOf(c)
	for range 2 {
		for _, node := range []int{math.MinInt, -3, -1, 0, 2, 4, 5, 10, 11, 12, 1 << 40, math.MaxInt} {
			for _, z := range []api.Num{p.right[0], p.right[1], {}, q, most} {
				answers(t, x, node, z, false, api.ErrNone)
				like(t, x, p)
			}
		}
		takes(t, x, p, 3, p.right[1])
	}
	takes(t, x, p, 1, p.right[0])
}

// 20.2: a node whose share was taken, or that is bad, whatever z is; nothing is changed.
func TestTakenAlready(t *testing.T) {
	c := plainScene()
	for _, first := range []api.Num{c.right()[1], near(c.right()[1], 1), q, most} {
		x, p := c.begin(t), plainOf(c)
		takes(t, x, p, 3, first)
		for _, z := range append([]api.Num{p.right[1], p.right[0], {}, near(p.right[1], 1)}, greats...) {
			answers(t, x, 3, z, false, api.ErrState)
			like(t, x, p)
		}
		takes(t, x, p, 1, p.right[0])
		for _, node := range c.nodes {
			answers(t, x, node, p.right[0], false, api.ErrState)
		}
		like(t, x, p)
	}
}

// 20.2: numbers that are no scalars: the node is bad.
func TestNoScalar(t *testing.T) {
	c := plainScene()
	for _, z := range greats {
		for i, node := range c.nodes {
			x, p := c.begin(t), plainOf(c)
			answers(t, x, node, z, false, api.ErrRange)
			lists(t, x, []int{node}, []int{c.nodes[1-i]})
			answers(t, x, node, p.right[i], false, api.ErrState)
			answers(t, x, c.nodes[1-i], p.right[1-i], false, api.OK)
			lists(t, x, []int{node}, nil)
			noSig(t, x)
		}
	}
}

// others are scenes that have something else: of their shares none is right here.
func others(c scene) []scene {
	out := []scene{c, c, c, c, c, c}
	out[0].m = c.m + "!"
	out[1].nodes = []int{1, 4}
	out[2].d = []api.Num{{21}, {23}}
	out[3].e = []api.Num{{31}, {33}}
	out[4].line = []api.Num{{11}, {6}}
	out[5].line = []api.Num{{12}, {5}}
	return out
}

// 20.2: scalars that are not right: near to it, of another scene, and of nearly the right sum.
func TestWrongShares(t *testing.T) {
	c := plainScene()
	right, nonces := c.right(), c.nonces()
	for i, node := range c.nodes {
		z := right[i]
		wrong := []api.Num{
			{}, {1}, near(z, 1), near(z, -1), negative(z), right[1-i], scalarOf(nonces[i]), c.d[i], c.e[i],
			scalarOf(c.value(node)), scalarOf(new(big.Int).Sub(bigOf(z), nonces[i])), c.sig().Z, negative(api.Num{1}),
		}
		for limb := range z {
			for _, bit := range []int{0, 31, 63} {
				flipped := z
				flipped[limb] ^= 1 << bit
				if bigOf(flipped).Cmp(bigQ) < 0 {
					wrong = append(wrong, flipped)
				}
			}
		}
		for _, other := range others(c) {
			wrong = append(wrong, other.right()[i])
		}
		for _, z := range wrong {
			x, p := c.begin(t), plainOf(c)
			answers(t, x, node, z, false, api.ErrShare)
			lists(t, x, []int{node}, []int{c.nodes[1-i]})
			answers(t, x, node, p.right[i], false, api.ErrState)
			answers(t, x, c.nodes[1-i], p.right[1-i], false, api.OK)
			noSig(t, x)
		}
	}
}

// 20.2, 20.3: all right shares, in any order: the last one that was missing is told, and behind it there is a signature.
func TestAllRight(t *testing.T) {
	source := rand.New(rand.NewSource(2))
	tables(func(n, f int) {
		for _, m := range []string{"", "message", full} {
			c := sceneOf(source, n, f, m)
			x, z := c.begin(t), c.right()
			for i, at := range source.Perm(f + 1) {
				noSig(t, x)
				answers(t, x, c.nodes[at], z[at], i == f, api.OK)
			}
			lists(t, x, nil, nil)
			for range 2 {
				if sig, e := x.Sig(); sig != c.sig() || e != api.OK {
					t.Errorf("Sig: %v, %v, not %v", sig, e, c.sig())
				}
			}
		}
	})
}

// 20.2: while a node is bad, its share is missing for ever: no other one is the last.
func TestNoLastBesideBad(t *testing.T) {
	source := rand.New(rand.NewSource(3))
	c := sceneOf(source, 10, 3, "m")
	z := c.right()
	for at, node := range c.nodes {
		for late := range 2 {
			x := c.begin(t)
			if late == 0 {
				answers(t, x, node, near(z[at], 1), false, api.ErrShare)
			}
			for i, other := range c.nodes {
				if i != at {
					answers(t, x, other, z[i], false, api.OK)
				}
			}
			if late == 1 {
				answers(t, x, node, near(z[at], 1), false, api.ErrShare)
			}
			lists(t, x, []int{node}, nil)
			noSig(t, x)
		}
	}
}
