package gather_test

import (
	"crypto/sha256"
	"encoding/binary"
	"math/big"
	"math/rand"
	"slices"
	"strings"
	"testing"

	"wardmote/api"
	"wardmote/bind"
	"wardmote/curve"
	"wardmote/field"
	"wardmote/gather"
	"wardmote/limb"
)

// What right shares are: hashed by crypto/sha256, reckoned in math/big; and a gathering, as the document tells it.

const ones = ^uint64(0)

// mostFail is by n the greatest f with 3 f < n.
var mostFail = [...]int{1: 0, 2: 0, 3: 0, 4: 1, 5: 1, 6: 1, 7: 2, 8: 2, 9: 2, 10: 3}

var (
	most     = api.Num{ones, ones, ones, ones}
	p        = field.Base().Modulus()
	q        = field.Scalars().Modulus()
	bigQ     = bigOf(q)
	infinity = api.Point{Inf: true}
	g        = curve.G()

	// full has as many bytes as a message may have, and long one more.
	full = strings.Repeat("m", api.MaxText)
	long = full + "m"

	// strangers are no points: beside the curve, with a coordinate from P on, infinite with a coordinate.
	strangers = []api.Point{
		{}, {X: g.X}, {X: g.Y, Y: g.X}, {X: g.X, Y: most}, {X: g.X, Y: g.Y, Inf: true}, {X: p, Inf: true},
	}

	// greats are no scalars: Q, the numbers next to it, P and the greatest.
	greats = []api.Num{q, {q[0] + 1, q[1], q[2], q[3]}, p, {3: ones, 2: ones}, most}
)

func bigOf(a api.Num) *big.Int { return new(big.Int).SetBytes([]byte(limb.Bytes(a))) }

// scalarOf is a number mod Q.
func scalarOf(a *big.Int) api.Num {
	out, _ := limb.FromBytes(string(new(big.Int).Mod(a, bigQ).FillBytes(make([]byte, 32))))
	return out
}

// near is a scalar that is so much more.
func near(a api.Num, n int64) api.Num { return scalarOf(new(big.Int).Add(bigOf(a), big.NewInt(n))) }

// negative is a scalar's.
func negative(a api.Num) api.Num { return scalarOf(new(big.Int).Neg(bigOf(a))) }

// multiples are kept from call to call, as they cost much.
var multiples = map[api.Num]api.Point{}

// timesG is a number times G.
func timesG(a api.Num) api.Point {
	out, is := multiples[a]
	if !is {
		out, _ = curve.Mul(a, g)
		multiples[a] = out
	}
	return out
}

// codeOf are a point's bytes.
func codeOf(a api.Point) string {
	if a.Inf {
		return strings.Repeat("\x00", 33)
	}
	return string(rune(2+a.Y[0]&1)) + limb.Bytes(a.X)
}

// hashed is the scalar of a tag and parts.
func hashed(tag string, parts ...string) *big.Int {
	text := append([]byte{byte(len(tag))}, tag...)
	for _, part := range parts {
		text = append(binary.BigEndian.AppendUint32(text, uint32(len(part))), part...)
	}
	high, low := sha256.Sum256(append([]byte{0}, text...)), sha256.Sum256(append([]byte{1}, text...))
	return new(big.Int).SetBytes(append(high[:], low[:]...))
}

// drawn is a scalar that is not 0, often a small one or near Q.
func drawn(source *rand.Rand) api.Num {
	edges := []api.Num{{1}, {2}, {3}, negative(api.Num{1}), negative(api.Num{2})}
	if i := source.Intn(3 * len(edges)); i < len(edges) {
		return edges[i]
	}
	return scalarOf(new(big.Int).Rand(source, bigQ))
}

// tables goes through all tables.
func tables(do func(n, f int)) {
	for n := 1; n <= 10; n++ {
		for f := range mostFail[n] + 1 {
			do(n, f)
		}
	}
}

// A scene is all that is known of a gathering: the polynomial, the message, the nodes, and the secrets of their nonces.
type scene struct {
	n     int
	line  []api.Num
	m     string
	nodes []int
	d, e  []api.Num
}

// sceneOf is one of a table, of nodes that are drawn.
func sceneOf(source *rand.Rand, n, f int, m string) scene {
	c := scene{n: n, m: m, nodes: source.Perm(n)[:f+1]}
	for i := range c.nodes {
		c.nodes[i]++
		c.line, c.d, c.e = append(c.line, drawn(source)), append(c.d, drawn(source)), append(c.e, drawn(source))
	}
	slices.Sort(c.nodes)
	return c
}

// f is how many may fail.
func (c scene) f() int { return len(c.line) - 1 }

// group are the polynomial's commitments.
func (c scene) group() []api.Point {
	var out []api.Point
	for _, a := range c.line {
		out = append(out, timesG(a))
	}
	return out
}

// list is the list of pairs.
func (c scene) list() []bind.Pair {
	var l []bind.Pair
	for i, node := range c.nodes {
		l = append(l, bind.Pair{Node: node, D: timesG(c.d[i]), E: timesG(c.e[i])})
	}
	return l
}

// nonces are the secrets d + factor e.
func (c scene) nonces() []*big.Int {
	list := []byte{20, byte(len(c.nodes))}
	for _, a := range c.list() {
		item := string([]byte{byte(a.Node)}) + codeOf(a.D) + codeOf(a.E)
		list = append(binary.BigEndian.AppendUint16(list, uint16(len(item))), item...)
	}
	var out []*big.Int
	for i, node := range c.nodes {
		factor := hashed("wardmote/binding", codeOf(timesG(c.line[0])), c.m, string(list), string([]byte{byte(node)}))
		factor.Mul(factor, bigOf(c.e[i]))
		out = append(out, factor.Add(factor, bigOf(c.d[i])))
	}
	return out
}

// r is the sum of all nonces, times G.
func (c scene) r() api.Point {
	sum := new(big.Int)
	for _, nonce := range c.nonces() {
		sum.Add(sum, nonce)
	}
	return timesG(scalarOf(sum))
}

// weight is the product of the other nodes' numbers, each by its gap to the node's.
func (c scene) weight(node int) *big.Int {
	out := big.NewInt(1)
	for _, other := range c.nodes {
		if other != node {
			gap := big.NewInt(int64(other - node))
			out.Mul(out, big.NewInt(int64(other)))
			out.Mul(out, gap.ModInverse(gap.Mod(gap, bigQ), bigQ))
		}
	}
	return out
}

// value is the polynomial's at a node.
func (c scene) value(node int) *big.Int {
	out := new(big.Int)
	for _, a := range slices.Backward(c.line) {
		out.Add(out.Mul(out, big.NewInt(int64(node))), bigOf(a))
	}
	return out
}

// right are the right shares, by the nodes' places.
func (c scene) right() []api.Num {
	challenge := hashed("wardmote/challenge", codeOf(c.r()), codeOf(timesG(c.line[0])), c.m)
	var out []api.Num
	for i, nonce := range c.nonces() {
		part := c.weight(c.nodes[i])
		part.Mul(part, challenge).Mul(part, c.value(c.nodes[i]))
		out = append(out, scalarOf(part.Add(part, nonce)))
	}
	return out
}

// sig is the signature.
func (c scene) sig() api.Sig {
	sum := new(big.Int)
	for _, z := range c.right() {
		sum.Add(sum, bigOf(z))
	}
	return api.Sig{R: c.r(), Z: scalarOf(sum)}
}

// begin is a gathering of a scene.
func (c scene) begin(t *testing.T) *gather.Gather {
	t.Helper()
	x, e := gather.New(c.n, c.f(), c.group(), c.m, c.list())
	if x == nil || e != api.OK {
		t.Fatalf("New of %d, %d, nodes %v: %v, %v", c.n, c.f(), c.nodes, x, e)
	}
	return x
}

// A plain is a gathering that works all out anew from what it was handed.
type plain struct {
	nodes  []int
	right  []api.Num
	sig    api.Sig
	handed map[int]api.Num // of each node what it was handed first
}

// plainOf is one without shares.
func plainOf(c scene) *plain {
	return &plain{nodes: c.nodes, right: c.right(), sig: c.sig(), handed: map[int]api.Num{}}
}

// take is what Take tells.
func (x *plain) take(node int, z api.Num) (bool, api.Errno) {
	at := slices.Index(x.nodes, node)
	if at < 0 {
		return false, api.ErrNone
	}
	if _, is := x.handed[node]; is {
		return false, api.ErrState
	}
	x.handed[node] = z
	switch {
	case bigOf(z).Cmp(bigQ) >= 0:
		return false, api.ErrRange
	case z != x.right[at]:
		return false, api.ErrShare
	}
	_, _, lack := x.sorted()
	return lack == 0, api.OK
}

// sorted are those that are bad and that are missing, and how many shares were not taken.
func (x *plain) sorted() (bad, missing []int, lack int) {
	for i, node := range x.nodes {
		z, is := x.handed[node]
		switch {
		case !is:
			missing = append(missing, node)
			lack++
		case z != x.right[i]:
			bad = append(bad, node)
			lack++
		}
	}
	return bad, missing, lack
}

// like looks for whether a gathering is as a plain one.
func like(t *testing.T, x *gather.Gather, p *plain) {
	t.Helper()
	bad, missing, lack := p.sorted()
	if got := x.Bad(); !slices.Equal(got, bad) {
		t.Fatalf("Bad: %v, not %v", got, bad)
	}
	if got := x.Missing(); !slices.Equal(got, missing) {
		t.Fatalf("Missing: %v, not %v", got, missing)
	}
	want, none := p.sig, api.OK
	if lack > 0 {
		want, none = api.Sig{}, api.ErrState
	}
	if got, e := x.Sig(); got != want || e != none {
		t.Fatalf("Sig: %v, %v, not %v, %v", got, e, want, none)
	}
}

// takes has both take a share, and looks for whether they tell the same, and are alike from then on.
func takes(t *testing.T, x *gather.Gather, p *plain, node int, z api.Num) {
	t.Helper()
	last, e := x.Take(node, z)
	if wantLast, want := p.take(node, z); last != wantLast || e != want {
		t.Fatalf("Take(%d): %v, %v, not %v, %v", node, last, e, wantLast, want)
	}
	like(t, x, p)
}
