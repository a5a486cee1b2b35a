package roast_test

import (
	"math/rand"
	"slices"
	"testing"
	"unsafe"

	"wardmote/api"
	"wardmote/bind"
	"wardmote/dkg"
	"wardmote/roast"
	"wardmote/schnorr"
	"wardmote/signer"
)

// anyPair is a pair of a node, seldom of another one, or none.
func anyPair(source *rand.Rand, node int) bind.Pair {
	switch source.Intn(20) {
	case 0:
		return pairOf(source.Intn(13)-1, source.Intn(77))
	case 1:
		all := noPairs(node)
		return all[source.Intn(len(all))]
	}
	return pairOf(node, source.Intn(77))
}

// anyShare is a share of a node, mostly the right one.
func anyShare(source *rand.Rand, x rig, node int) api.Num {
	all := []api.Num{{}, {1}, q, most, drawn(1)}
	if x.p.in[node] > 0 && source.Intn(12) > 0 {
		return x.right(node)
	}
	return all[source.Intn(len(all))]
}

// 21.2 to 21.5: whatever is told, in whichever order, a coordinator is as a plain one, and opens at most n - f sessions.
func TestAnyCalls(t *testing.T) {
	source := rand.New(rand.NewSource(1))
	tables(func(n, f int) {
		for range 6 {
			x := rigOf(t, n, f, "m")
			for range 8 * n {
				node := source.Intn(n) + 1
				if source.Intn(20) == 0 {
					node = source.Intn(13) - 1
				}
				session := x.p.in[node]
				switch source.Intn(25) {
				case 0:
					x.fail(node)
				case 1:
					session = source.Intn(n + 2)
					fallthrough
				case 2, 3, 4, 5, 6, 7, 8, 9, 10, 11, 12, 13, 14:
					x.share(session, node, anyShare(source, x, node), anyPair(source, node))
				default:
					x.begin(anyPair(source, node))
				}
			}
			if got := x.r.Sessions(); got > n-f {
				t.Fatalf("%d sessions of %d, %d", got, n, f)
			}
		}
	})
}

// 21.5: f nodes do as told, and in each session there is one more, which tells nothing, a wrong share, or fails: that makes
// n - f sessions, and no more.
func TestMostSessions(t *testing.T) {
	tables(func(n, f int) {
		for way := range 3 {
			x := rigOf(t, n, f, "m")
			for node := 1; node <= n; node++ {
				says(t, x.begin(pairOf(node, node)), api.OK)
				session := x.r.Sessions()
				if node > f && session != node-f {
					t.Fatalf("%d sessions at node %d of %d, %d", session, node, n, f)
				}
				for told := 1; node > f && told <= f; told++ {
					says(t, x.share(session, told, x.right(told), pairOf(told, 10*session+told)), api.OK)
				}
				switch {
				case way == 1 && node > f:
					says(t, x.share(session, node, near(x.right(node)), pairOf(node, 1)), api.ErrShare)
				case way == 2 && node > f:
					x.fail(node)
				}
			}
			if _, is := x.r.Done(); is || x.r.Sessions() != n-f {
				t.Fatalf("%d sessions of %d, %d", x.r.Sessions(), n, f)
			}
		}
	})
}

// odd is what a node that does not do as told tells next, of one that is in a session, or is not.
func odd(source *rand.Rand, x rig, node int) {
	session := x.p.in[node]
	switch kind := source.Intn(8); {
	case kind == 0: // nothing
	case session == 0 && kind < 4:
		x.begin(anyPair(source, node))
	case session == 0:
		x.begin(pairOf(node, source.Intn(77)))
	case kind == 1:
		x.share(session, node, near(x.right(node)), pairOf(node, 1))
	case kind == 2:
		x.share(session, node, q, pairOf(node, 1))
	case kind == 3:
		x.share(source.Intn(8), node, x.right(node), anyPair(source, node))
	case kind == 4:
		x.share(session, node, x.right(node), bind.Pair{Node: node, D: infinity, E: g})
	case kind == 5:
		x.share(session, node, x.right(node), pairOf(node%x.p.n+1, 1))
	default:
		x.share(session, node, x.right(node), pairOf(node, source.Intn(77)))
	}
}

// tells has a node that does as told tell what it has to, if there is something.
func tells(source *rand.Rand, x rig, node int) bool {
	switch word := x.p.word[node]; {
	case x.p.done != nil:
		return false
	case word == "":
		says(x.t, x.begin(pairOf(node, source.Intn(77))), api.OK)
	case word == "busy":
		says(x.t, x.share(x.p.in[node], node, x.right(node), pairOf(node, source.Intn(77))), api.OK)
	default:
		return false
	}
	return true
}

// 21.5, 21.6: n - f nodes do as told, late or early; whatever the others tell, there is a signature that holds, of at most
// n - f sessions, and none of the former is bad.
func TestItEnds(t *testing.T) {
	source := rand.New(rand.NewSource(2))
	tables(func(n, f int) {
		for range 8 {
			x, nodes := rigOf(t, n, f, "m"), source.Perm(n)
			for i := range nodes {
				nodes[i]++
			}
			good, others := nodes[f:], nodes[:f]
			for idle := 0; idle < len(good); {
				for _, node := range others {
					odd(source, x, node)
				}
				at := source.Intn(len(good))
				good[0], good[at] = good[at], good[0]
				idle++
				if tells(source, x, good[0]) {
					idle = 0
				} else if slices.ContainsFunc(good, func(node int) bool { return tells(source, x, node) }) {
					idle = 0
				}
			}
			sig, is := x.r.Done()
			if !is || schnorr.Verify(timesG(x.p.line[0]), "m", sig) != api.OK || x.r.Sessions() > n-f {
				t.Fatalf("%d, %d: %v, %v; %d sessions", n, f, sig, is, x.r.Sessions())
			}
			for _, node := range x.r.Bad() {
				if slices.Contains(good, node) {
					t.Fatalf("node %d does as told, and is bad", node)
				}
			}
		}
	})
}

// A crew are signers of a table's key, the nonces of whose pairs are known.
type crew struct {
	signers []*signer.Signer
	numbers map[bind.Pair]int
}

// crewOf is one of a polynomial.
func crewOf(t *testing.T, n int, line []api.Num) crew {
	t.Helper()
	c, group := crew{numbers: map[bind.Pair]int{}}, groupOf(line)
	for self := 1; self <= n; self++ {
		k := dkg.Key{N: n, F: len(line) - 1, Self: self, Public: group[0], Group: group}
		k.Share = scalarOf(valueOf(line, self))
		s, e := signer.New(k, string(rune('a'+self)), 0)
		says(t, e, api.OK)
		c.signers = append(c.signers, s)
	}
	return c
}

// issue is a node's next pair.
func (c crew) issue(node int) bind.Pair {
	number, pair, _ := c.signers[node-1].Issue()
	c.numbers[pair] = number
	return pair
}

// sign is a node's share in a session.
func (c crew) sign(t *testing.T, m string, node int, s roast.Session) api.Num {
	t.Helper()
	at := slices.IndexFunc(s.L, func(a bind.Pair) bool { return a.Node == node })
	z, e := c.signers[node-1].Sign(c.numbers[s.L[at]], m, s.L)
	says(t, e, api.OK)
	return z
}

// 21.6: signers that do as told bring a signature about, although the f first ones that answer tell no share ever.
func TestSigners(t *testing.T) {
	tables(func(n, f int) {
		line := lineOf(f)
		r, e := roast.New(n, f, groupOf(line), full)
		says(t, e, api.OK)
		c := crewOf(t, n, line)
		var open []roast.Session
		hear := func(s roast.Session, is bool, e api.Errno) {
			t.Helper()
			says(t, e, api.OK)
			if is {
				open = append(open, s)
			}
		}
		for node := 1; node <= n; node++ {
			hear(r.Begin(c.issue(node)))
		}
		for len(open) > 0 {
			s := open[0]
			open = open[1:]
			for _, a := range s.L {
				if _, is := r.Done(); a.Node > f && !is {
					hear(r.Share(s.Number, a.Node, c.sign(t, full, a.Node, s), c.issue(a.Node)))
				}
			}
		}
		sig, is := r.Done()
		if !is || schnorr.Verify(timesG(line[0]), full, sig) != api.OK || len(r.Bad()) > 0 || r.Sessions() > n-f {
			t.Fatalf("%d, %d: %v, %v; bad %v, %d sessions", n, f, sig, is, r.Bad(), r.Sessions())
		}
	})
}

// R3: the message is not kept as it was handed in: what becomes of its memory later is nobody's concern.
func TestMessageIsNotKept(t *testing.T) {
	x, memory := rigOf(t, 4, 1, "a message"), []byte("a message")
	x.r, _ = roast.New(4, 1, groupOf(x.p.line), unsafe.String(&memory[0], len(memory)))
	clear(memory)
	says(t, x.begin(pairOf(1, 1)), api.OK)
	says(t, x.begin(pairOf(2, 2)), api.OK)
	says(t, x.share(1, 1, x.right(1), pairOf(1, 3)), api.OK)
	says(t, x.share(1, 2, x.right(2), pairOf(2, 4)), api.OK)
	looks(t, x.r, nil, nil, 1, x.p.sittings[0].sig, true)
}

// R6: coordinators that are told the same tell the same, and none has a part of another one.
func TestApart(t *testing.T) {
	x, y := opened(t), opened(t)
	says(t, x.share(1, 1, near(x.right(1)), pairOf(1, 3)), api.ErrShare)
	says(t, y.share(1, 1, y.right(1), pairOf(1, 3)), api.OK)
	x.is([]int{1}, []int{3}, 1)
	y.is(nil, []int{3}, 1)
	says(t, y.share(1, 3, y.right(3), pairOf(3, 4)), api.OK)
	says(t, x.share(1, 3, x.right(3), pairOf(3, 4)), api.OK)
	x.is([]int{1}, nil, 1)
	looks(t, y.r, nil, nil, 1, y.p.sittings[0].sig, true)
}
