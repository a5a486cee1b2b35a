package bind_test

import (
	"crypto/sha256"
	"encoding/binary"
	"math/big"
	"math/rand"
	"slices"
	"strings"
	"testing"

	"wardmote/api"
	"wardmote/bind"
	"wardmote/curve"
	"wardmote/field"
	"wardmote/limb"
)

// What lists' bytes and factors are: written by encoding/binary, hashed by crypto/sha256, reckoned in math/big; and nonces
// as points that are summed one by one.

const ones = ^uint64(0)

var (
	most     = api.Num{ones, ones, ones, ones}
	p        = field.Base().Modulus()
	bigQ     = new(big.Int).SetBytes([]byte(limb.Bytes(field.Scalars().Modulus())))
	infinity = api.Point{Inf: true}
	g        = curve.G()

	// full has as many bytes as a message may have, and long one more.
	full = strings.Repeat("m", api.MaxText)
	long = full + "m"

	// strangers are no points: beside the curve, with a coordinate from P on, infinite with a coordinate.
	strangers = []api.Point{
		{}, {X: g.X}, {X: g.Y, Y: g.X}, {X: g.X, Y: more(g.Y, api.Num{1})}, {X: more(withX(1).X, p), Y: withX(1).Y},
		{X: g.X, Y: most}, {X: g.X, Y: g.Y, Inf: true}, {X: p, Inf: true}, {Y: api.Num{1}, Inf: true},
	}

	// refused are all that no list's point and no public point may be.
	refused = append([]api.Point{infinity}, strangers...)
)

func more(a, b api.Num) api.Num {
	out, _ := limb.Add(a, b)
	return out
}

// scalarOf is a number mod Q.
func scalarOf(a *big.Int) api.Num {
	out, _ := limb.FromBytes(string(new(big.Int).Mod(a, bigQ).FillBytes(make([]byte, 32))))
	return out
}

func bigOf(a api.Num) *big.Int { return new(big.Int).SetBytes([]byte(limb.Bytes(a))) }

// withX is a point of a small X, of which nobody knows which multiple of G it is.
func withX(x uint64) api.Point {
	out, _ := curve.Decode("\x02" + limb.Bytes(api.Num{x}))
	return out
}

// timesG is a number times G.
func timesG(a api.Num) api.Point {
	out, _ := curve.Mul(a, g)
	return out
}

// codeOf are a point's bytes, also of what is none.
func codeOf(a api.Point) string {
	if a.Inf {
		return strings.Repeat("\x00", 33)
	}
	return string(rune(2+a.Y[0]&1)) + limb.Bytes(a.X)
}

// record is a kind and items as bytes.
func record(kind int, items ...string) string {
	out := []byte{byte(kind), byte(len(items))}
	for _, item := range items {
		out = binary.BigEndian.AppendUint16(out, uint16(len(item)))
		out = append(out, item...)
	}
	return string(out)
}

// itemOf are a pair's bytes.
func itemOf(a bind.Pair) string { return string([]byte{byte(a.Node)}) + codeOf(a.D) + codeOf(a.E) }

// bytesOf are a list's bytes, whether it is one or not.
func bytesOf(l []bind.Pair) string {
	var items []string
	for _, a := range l {
		items = append(items, itemOf(a))
	}
	return record(20, items...)
}

// factorOf is a node's factor.
func factorOf(y api.Point, m string, l []bind.Pair, node int) api.Num {
	tag := "wardmote/binding"
	hashed := append([]byte{byte(len(tag))}, tag...)
	for _, part := range []string{codeOf(y), m, bytesOf(l), string([]byte{byte(node)})} {
		hashed = binary.BigEndian.AppendUint32(hashed, uint32(len(part)))
		hashed = append(hashed, part...)
	}
	high, low := sha256.Sum256(append([]byte{0}, hashed...)), sha256.Sum256(append([]byte{1}, hashed...))
	return scalarOf(new(big.Int).SetBytes(append(high[:], low[:]...)))
}

// nonceOf is a pair's nonce, bound.
func nonceOf(y api.Point, m string, l []bind.Pair, a bind.Pair) api.Point {
	times, _ := curve.Mul(factorOf(y, m, l, a.Node), a.E)
	out, _ := curve.Add(a.D, times)
	return out
}

// drawn is a scalar that is not 0, often a small one or near Q.
func drawn(source *rand.Rand) api.Num {
	edges := []api.Num{{1}, {2}, {3}, scalarOf(big.NewInt(-1)), scalarOf(big.NewInt(-2))}
	if i := source.Intn(3 * len(edges)); i < len(edges) {
		return edges[i]
	}
	return scalarOf(new(big.Int).Rand(source, bigQ))
}

// nodes are so many that rise, from 1 to MaxNodes.
func nodes(source *rand.Rand, count int) []int {
	out := source.Perm(api.MaxNodes)[:count]
	for i := range out {
		out[i]++
	}
	slices.Sort(out)
	return out
}

// secret is a pair's secrets.
type secret struct{ d, e api.Num }

// listOf is a list of some nodes, and its secrets.
func listOf(source *rand.Rand, count int) ([]bind.Pair, []secret) {
	var l []bind.Pair
	var secrets []secret
	for _, node := range nodes(source, count) {
		a := secret{drawn(source), drawn(source)}
		l, secrets = append(l, bind.Pair{Node: node, D: timesG(a.d), E: timesG(a.e)}), append(secrets, a)
	}
	return l, secrets
}

// plainList is a list of so many nodes, from 1 on.
func plainList(count int) []bind.Pair {
	var l []bind.Pair
	for i := range count {
		l = append(l, bind.Pair{Node: i + 1, D: withX(uint64(1 + i%4)), E: g})
	}
	return l
}

// with is a list that has another pair at a place.
func with(l []bind.Pair, at int, a bind.Pair) []bind.Pair {
	out := slices.Clone(l)
	out[at] = a
	return out
}

// messages are of no byte, of some, with noughts, and of as many bytes as may be.
var messages = []string{"", "m", "message", "\x00", "\x00\x00", "\xff\xfe", full[1:], full}

func tells(t *testing.T, what string, e, want api.Errno) {
	t.Helper()
	if e != want {
		t.Fatalf("%s: %v, not %v", what, e, want)
	}
}

// failsAll looks for the error of all three that bind, and for nothing beside it (R4).
func failsAll(t *testing.T, what string, y api.Point, m string, l []bind.Pair, node int, want api.Errno) {
	t.Helper()
	if got, e := bind.Group(y, m, l); e != want || got != (api.Point{}) {
		t.Fatalf("%s: Group: %v, %v, not %v", what, got, e, want)
	}
	failsNode(t, what, y, m, l, node, want)
}

// failsNode looks for the error of the two that are asked of a node.
func failsNode(t *testing.T, what string, y api.Point, m string, l []bind.Pair, node int, want api.Errno) {
	t.Helper()
	if got, e := bind.Factor(y, m, l, node); e != want || got != (api.Num{}) {
		t.Fatalf("%s: Factor: %v, %v, not %v", what, got, e, want)
	}
	if got, e := bind.Nonce(y, m, l, node); e != want || got != (api.Point{}) {
		t.Fatalf("%s: Nonce: %v, %v, not %v", what, got, e, want)
	}
}
