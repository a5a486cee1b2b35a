package signer_test

import (
	"math/rand"
	"slices"
	"testing"

	"wardmote/api"
	"wardmote/bind"
	"wardmote/dkg"
	"wardmote/field"
	"wardmote/schnorr"
	"wardmote/signer"
)

// 19.3: whatever is asked for in whatever order, at most one share is told of each nonce.
func TestSpentOnce(t *testing.T) {
	for seed := range int64(6) {
		source := rand.New(rand.NewSource(seed))
		k := plainKey()
		used := source.Intn(3)
		s := begin(t, k, "s", used)
		issued := used
		var open []int
		for range 120 {
			nonce := source.Intn(issued + 3)
			if source.Intn(3) == 0 {
				issued++
				open = append(open, issued)
				if got := issues(t, s, issued); got != pairOf(2, "s", issued) {
					t.Fatalf("Issue: %v", got)
				}
				continue
			}
			l := listWith(source, pairOf(2, "s", nonce), someNodes(source, 4, 2, 2))
			m := messages[source.Intn(3)]
			at := slices.Index(open, nonce)
			switch {
			case nonce == 0:
				fails(t, "none", s, nonce, m, l, api.ErrArg)
			case nonce > issued:
				fails(t, "not issued", s, nonce, m, l, api.ErrNone)
			case at < 0:
				fails(t, "spent", s, nonce, m, l, api.ErrSpent)
			case source.Intn(3) == 0:
				fails(t, "wrong", s, nonce, m, l[:1], api.ErrArg)
			default:
				signs(t, s, nonce, m, l, shareOf(k, "s", nonce, m, l))
				open = slices.Delete(open, at, at+1)
			}
			for nonce := range issued + 3 {
				if want := nonce >= 1 && nonce <= issued && !slices.Contains(open, nonce); s.Spent(nonce) != want {
					t.Fatalf("Spent(%d): %v", nonce, !want)
				}
			}
		}
	}
}

// crew are signers of a table, by their places.
type crew []*signer.Signer

// crewOf is a crew of keys, with seeds of their own.
func crewOf(t *testing.T, keys []dkg.Key) crew {
	t.Helper()
	var out crew
	for _, k := range keys {
		out = append(out, begin(t, k, "seed"+string(rune('0'+k.Self)), k.Self))
	}
	return out
}

// sign is the signature of some nodes' shares.
func (c crew) sign(t *testing.T, y api.Point, m string, nodes []int) api.Sig {
	t.Helper()
	var l []bind.Pair
	nonces := map[int]int{}
	for _, node := range nodes {
		nonce, pair, e := c[node-1].Issue()
		if e != api.OK {
			t.Fatal(e)
		}
		l, nonces[node] = append(l, pair), nonce
	}
	sig := api.Sig{R: sumOf(y, m, l)}
	for _, node := range nodes {
		z, e := c[node-1].Sign(nonces[node], m, l)
		if e != api.OK {
			t.Fatalf("node %d: %v", node, e)
		}
		sig.Z, _ = field.Scalars().Add(sig.Z, z)
	}
	return sig
}

// 19.4: shares of any f + 1 nodes, summed, are a signature that holds, of that message alone.
func TestSharesHold(t *testing.T) {
	source := rand.New(rand.NewSource(3))
	tables(func(n, f int) {
		var keys []dkg.Key
		line := lineOf(source, f+1)
		for self := 1; self <= n; self++ {
			keys = append(keys, keyOf(n, self, line))
		}
		c := crewOf(t, keys)
		y := keys[0].Public
		for i := range 12 {
			nodes, m := someNodes(source, n, f+1, 1+i%n), messages[i%len(messages)]
			sig := c.sign(t, y, m, nodes)
			if e := schnorr.Verify(y, m, sig); e != api.OK {
				t.Fatalf("nodes %v of %d, %d: %v", nodes, n, f, e)
			}
			if e := schnorr.Verify(y, m[:len(m)/2]+"!", sig); e != api.ErrSign {
				t.Fatalf("another message: %v", e)
			}
		}
	})
}

// 19.4: so do those of all sets of f + 1 nodes that made a key together.
func TestMadeKeysHold(t *testing.T) {
	keys := makeKeys(t, 7, 2)
	c := crewOf(t, keys)
	for set := range 1 << 7 {
		var nodes []int
		for node := 1; node <= 7; node++ {
			if set>>(node-1)&1 == 1 {
				nodes = append(nodes, node)
			}
		}
		if len(nodes) != 3 {
			continue
		}
		if e := schnorr.Verify(keys[0].Public, "m", c.sign(t, keys[0].Public, "m", nodes)); e != api.OK {
			t.Fatalf("nodes %v: %v", nodes, e)
		}
	}
}

// makeKeys are the keys that nodes make together.
func makeKeys(t *testing.T, n, f int) []dkg.Key {
	t.Helper()
	var nodes []*dkg.Node
	for self := 1; self <= n; self++ {
		x, e := dkg.New(n, f, self, string(rune('a'+self)))
		if e != api.OK {
			t.Fatal(e)
		}
		nodes = append(nodes, x)
	}
	for range nodes[0].Rounds() {
		told := make([][]string, n)
		for _, x := range nodes {
			for to, text := range x.Send() {
				told[to] = append(told[to], text)
			}
		}
		for i, x := range nodes {
			x.Hear(told[i])
		}
	}
	var keys []dkg.Key
	for _, x := range nodes {
		k, is := x.Key()
		if !is {
			t.Fatal("no key")
		}
		keys = append(keys, k)
	}
	return keys
}
