package signer_test

import (
	"crypto/sha256"
	"encoding/binary"
	"math/big"
	"math/rand"
	"slices"
	"strings"

	"wardmote/api"
	"wardmote/bind"
	"wardmote/curve"
	"wardmote/dkg"
	"wardmote/field"
	"wardmote/limb"
)

// What nonces and shares are: hashed by crypto/sha256, reckoned in math/big; points are summed one by one.

const ones = ^uint64(0)

// mostFail is by n the greatest f with 3 f < n.
var mostFail = [...]int{1: 0, 2: 0, 3: 0, 4: 1, 5: 1, 6: 1, 7: 2, 8: 2, 9: 2, 10: 3}

var (
	most     = api.Num{ones, ones, ones, ones}
	p        = field.Base().Modulus()
	q        = field.Scalars().Modulus()
	bigQ     = bigOf(q)
	infinity = api.Point{Inf: true}
	g        = curve.G()

	// full has as many bytes as a message may have, and long one more.
	full = strings.Repeat("m", api.MaxText)
	long = full + "m"

	// strangers are no points: beside the curve, with a coordinate from P on, infinite with a coordinate.
	strangers = []api.Point{
		{}, {X: g.X}, {X: g.Y, Y: g.X}, {X: g.X, Y: most}, {X: g.X, Y: g.Y, Inf: true}, {X: p, Inf: true},
	}
)

func bigOf(a api.Num) *big.Int { return new(big.Int).SetBytes([]byte(limb.Bytes(a))) }

// scalarOf is a number mod Q.
func scalarOf(a *big.Int) api.Num {
	out, _ := limb.FromBytes(string(new(big.Int).Mod(a, bigQ).FillBytes(make([]byte, 32))))
	return out
}

// multiples are kept from call to call, as they cost much.
var multiples = map[api.Num]api.Point{}

// timesG is a number times G.
func timesG(a api.Num) api.Point {
	out, is := multiples[a]
	if !is {
		out, _ = curve.Mul(a, g)
		multiples[a] = out
	}
	return out
}

// codeOf are a point's bytes.
func codeOf(a api.Point) string {
	if a.Inf {
		return strings.Repeat("\x00", 33)
	}
	return string(rune(2+a.Y[0]&1)) + limb.Bytes(a.X)
}

// hashed is the scalar of a tag and parts.
func hashed(tag string, parts ...string) api.Num {
	text := append([]byte{byte(len(tag))}, tag...)
	for _, part := range parts {
		text = append(binary.BigEndian.AppendUint32(text, uint32(len(part))), part...)
	}
	high, low := sha256.Sum256(append([]byte{0}, text...)), sha256.Sum256(append([]byte{1}, text...))
	return scalarOf(new(big.Int).SetBytes(append(high[:], low[:]...)))
}

// secretOf is one of a nonce's two, by its label.
func secretOf(seed, label string, nonce int) api.Num {
	return hashed(label, seed, string(binary.BigEndian.AppendUint64(nil, uint64(nonce))))
}

// pairOf is a nonce's pair.
func pairOf(node int, seed string, nonce int) bind.Pair {
	d, e := secretOf(seed, "wardmote/d", nonce), secretOf(seed, "wardmote/e", nonce)
	return bind.Pair{Node: node, D: timesG(d), E: timesG(e)}
}

// factorOf is a node's factor.
func factorOf(y api.Point, m string, l []bind.Pair, node int) api.Num {
	list := []byte{20, byte(len(l))}
	for _, a := range l {
		item := string([]byte{byte(a.Node)}) + codeOf(a.D) + codeOf(a.E)
		list = append(binary.BigEndian.AppendUint16(list, uint16(len(item))), item...)
	}
	return hashed("wardmote/binding", codeOf(y), m, string(list), string([]byte{byte(node)}))
}

// sumOf is the sum of all nonces.
func sumOf(y api.Point, m string, l []bind.Pair) api.Point {
	out := infinity
	for _, a := range l {
		bound, _ := curve.Mul(factorOf(y, m, l, a.Node), a.E)
		out, _ = curve.Add(out, a.D)
		out, _ = curve.Add(out, bound)
	}
	return out
}

// weightOf is the product of the other nodes' numbers, each by its gap to the node's.
func weightOf(l []bind.Pair, node int) *big.Int {
	out := big.NewInt(1)
	for _, a := range l {
		if a.Node != node {
			gap := big.NewInt(int64(a.Node - node))
			out.Mul(out, big.NewInt(int64(a.Node)))
			out.Mul(out, gap.ModInverse(gap.Mod(gap, bigQ), bigQ))
		}
	}
	return out
}

// shareOf is the share of a signature: d + factor e + weight c x.
func shareOf(k dkg.Key, seed string, nonce int, m string, l []bind.Pair) api.Num {
	c := hashed("wardmote/challenge", codeOf(sumOf(k.Public, m, l)), codeOf(k.Public), m)
	part := weightOf(l, k.Self)
	part.Mul(part, bigOf(c)).Mul(part, bigOf(k.Share))
	bound := bigOf(factorOf(k.Public, m, l, k.Self))
	bound.Mul(bound, bigOf(secretOf(seed, "wardmote/e", nonce)))
	out := bigOf(secretOf(seed, "wardmote/d", nonce))
	return scalarOf(out.Add(out, bound).Add(out, part))
}

// drawn is a scalar that is not 0, often a small one or near Q.
func drawn(source *rand.Rand) api.Num {
	edges := []api.Num{{1}, {2}, {3}, scalarOf(big.NewInt(-1)), scalarOf(big.NewInt(-2))}
	if i := source.Intn(3 * len(edges)); i < len(edges) {
		return edges[i]
	}
	return scalarOf(new(big.Int).Rand(source, bigQ))
}

// lineOf is a polynomial of so many coefficients.
func lineOf(source *rand.Rand, count int) []api.Num {
	var out []api.Num
	for range count {
		out = append(out, drawn(source))
	}
	return out
}

// keyOf is a node's key of a polynomial.
func keyOf(n, self int, line []api.Num) dkg.Key {
	k := dkg.Key{N: n, F: len(line) - 1, Self: self}
	value := new(big.Int)
	for _, a := range slices.Backward(line) {
		value.Add(value.Mul(value, big.NewInt(int64(self))), bigOf(a))
	}
	for _, a := range line {
		k.Group = append(k.Group, timesG(a))
	}
	k.Share, k.Public = scalarOf(value), k.Group[0]
	return k
}

// plainKey is node 2's of four, of which one fails.
func plainKey() dkg.Key { return keyOf(4, 2, []api.Num{{11}, {5}}) }

// tables goes through all tables.
func tables(do func(n, f int)) {
	for n := 1; n <= 10; n++ {
		for f := range mostFail[n] + 1 {
			do(n, f)
		}
	}
}

// someNodes are so many of n that rise, self among them.
func someNodes(source *rand.Rand, n, count, self int) []int {
	out := []int{self}
	for _, i := range source.Perm(n) {
		if i+1 != self && len(out) < count {
			out = append(out, i+1)
		}
	}
	slices.Sort(out)
	return out
}

// listWith is a list of some nodes: the own pair, and pairs of other ones.
func listWith(source *rand.Rand, own bind.Pair, nodes []int) []bind.Pair {
	var l []bind.Pair
	for _, node := range nodes {
		if node == own.Node {
			l = append(l, own)
		} else {
			l = append(l, bind.Pair{Node: node, D: timesG(drawn(source)), E: timesG(drawn(source))})
		}
	}
	return l
}

// messages are of no byte, of some, with noughts, and of as many bytes as may be.
var messages = []string{"", "m", "message", "\x00", "\xff\xfe", full[1:], full}
