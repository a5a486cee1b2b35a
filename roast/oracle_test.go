package roast_test

import (
	"crypto/sha256"
	"encoding/binary"
	"math/big"
	"slices"
	"strings"
	"testing"

	"wardmote/api"
	"wardmote/bind"
	"wardmote/curve"
	"wardmote/field"
	"wardmote/limb"
	"wardmote/roast"
)

// What right shares are: hashed by crypto/sha256, reckoned in math/big; and a coordinator, as the document tells it.

const ones = ^uint64(0)

// mostFail is by n the greatest f with 3 f < n.
var mostFail = [...]int{1: 0, 2: 0, 3: 0, 4: 1, 5: 1, 6: 1, 7: 2, 8: 2, 9: 2, 10: 3}

var (
	most     = api.Num{ones, ones, ones, ones}
	q        = field.Scalars().Modulus()
	bigQ     = bigOf(q)
	infinity = api.Point{Inf: true}
	g        = curve.G()

	// full has as many bytes as a message may have, and long one more.
	full = strings.Repeat("m", api.MaxText)
	long = full + "m"

	// strangers are no points: beside the curve, with a coordinate from P on, infinite with a coordinate.
	strangers = []api.Point{
		{}, {X: g.X}, {X: g.Y, Y: g.X}, {X: g.X, Y: most}, {X: g.X, Y: g.Y, Inf: true}, {X: field.Base().Modulus(), Inf: true},
	}

	// greats are no scalars: Q, the number next to it, P and the greatest.
	greats = []api.Num{q, {q[0] + 1, q[1], q[2], q[3]}, field.Base().Modulus(), most}
)

func bigOf(a api.Num) *big.Int { return new(big.Int).SetBytes([]byte(limb.Bytes(a))) }

// scalarOf is a number mod Q.
func scalarOf(a *big.Int) api.Num {
	out, _ := limb.FromBytes(string(new(big.Int).Mod(a, bigQ).FillBytes(make([]byte, 32))))
	return out
}

// near is a scalar that is one more.
func near(a api.Num) api.Num { return scalarOf(new(big.Int).Add(bigOf(a), big.NewInt(1))) }

// Multiples of G are kept from call to call, as they cost much, and by their points, so that what was drawn is known.
var (
	multiples = map[api.Num]api.Point{}
	secrets   = map[api.Point]api.Num{}
)

// timesG is a number times G.
func timesG(a api.Num) api.Point {
	out, is := multiples[a]
	if !is {
		out, _ = curve.Mul(a, g)
		multiples[a], secrets[out] = out, a
	}
	return out
}

// codeOf are a point's bytes.
func codeOf(a api.Point) string {
	if a.Inf {
		return strings.Repeat("\x00", 33)
	}
	return string(rune(2+a.Y[0]&1)) + limb.Bytes(a.X)
}

// hashed is the number of a tag and parts, to be taken mod Q.
func hashed(tag string, parts ...string) *big.Int {
	text := append([]byte{byte(len(tag))}, tag...)
	for _, part := range parts {
		text = append(binary.BigEndian.AppendUint32(text, uint32(len(part))), part...)
	}
	high, low := sha256.Sum256(append([]byte{0}, text...)), sha256.Sum256(append([]byte{1}, text...))
	return new(big.Int).SetBytes(append(high[:], low[:]...))
}

// drawn is a scalar that a number tells.
func drawn(n int) api.Num {
	return scalarOf(hashed("drawn", string(binary.AppendVarint(nil, int64(n)))))
}

// lineOf is a polynomial of f + 1 coefficients.
func lineOf(f int) []api.Num {
	var out []api.Num
	for i := range f + 1 {
		out = append(out, drawn(-1-i))
	}
	return out
}

// groupOf are a polynomial's commitments.
func groupOf(line []api.Num) []api.Point {
	var out []api.Point
	for _, a := range line {
		out = append(out, timesG(a))
	}
	return out
}

// valueOf is a polynomial's at a node.
func valueOf(line []api.Num, node int) *big.Int {
	out := new(big.Int)
	for _, a := range slices.Backward(line) {
		out.Add(out.Mul(out, big.NewInt(int64(node))), bigOf(a))
	}
	return out
}

// pairOf is a node's pair, of secrets that a number tells. Points are used again, in other pairs, as they cost much.
func pairOf(node, n int) bind.Pair {
	return bind.Pair{Node: node, D: timesG(drawn(n % 7)), E: timesG(drawn(100 + n/7%11))}
}

// tables goes through all tables.
func tables(do func(n, f int)) {
	for n := 1; n <= 10; n++ {
		for f := range mostFail[n] + 1 {
			do(n, f)
		}
	}
}

// weightOf is the product of the other nodes' numbers, each by its gap to the node's.
func weightOf(l []bind.Pair, node int) *big.Int {
	out := big.NewInt(1)
	for _, a := range l {
		if a.Node != node {
			gap := big.NewInt(int64(a.Node - node))
			out.Mul(out, big.NewInt(int64(a.Node)))
			out.Mul(out, gap.ModInverse(gap.Mod(gap, bigQ), bigQ))
		}
	}
	return out
}

// noncesOf are the secrets d + factor e of a list.
func noncesOf(y api.Point, m string, l []bind.Pair) []*big.Int {
	list := []byte{20, byte(len(l))}
	for _, a := range l {
		item := string([]byte{byte(a.Node)}) + codeOf(a.D) + codeOf(a.E)
		list = append(binary.BigEndian.AppendUint16(list, uint16(len(item))), item...)
	}
	var out []*big.Int
	for _, a := range l {
		factor := hashed("wardmote/binding", codeOf(y), m, string(list), string([]byte{byte(a.Node)}))
		factor.Mul(factor, bigOf(secrets[a.E]))
		out = append(out, factor.Add(factor, bigOf(secrets[a.D])))
	}
	return out
}

// rightOf are the right shares of a list, by nodes, and the signature that they make.
func rightOf(line []api.Num, m string, l []bind.Pair) (map[int]api.Num, api.Sig) {
	y, nonces, sum, all := timesG(line[0]), noncesOf(timesG(line[0]), m, l), new(big.Int), new(big.Int)
	for _, nonce := range nonces {
		sum.Add(sum, nonce)
	}
	r, shares := timesG(scalarOf(sum)), map[int]api.Num{}
	challenge := hashed("wardmote/challenge", codeOf(r), codeOf(y), m)
	for i, a := range l {
		part := weightOf(l, a.Node)
		part.Mul(part, challenge).Mul(part, valueOf(line, a.Node))
		part.Add(part, nonces[i])
		all.Add(all, part)
		shares[a.Node] = scalarOf(part)
	}
	return shares, api.Sig{R: r, Z: scalarOf(all)}
}

// A sitting is a session of a plain coordinator.
type sitting struct {
	l      []bind.Pair
	right  map[int]api.Num
	sig    api.Sig
	shares int // how many were taken
}

// A plain is a coordinator that has of each node a word.
type plain struct {
	n        int
	line     []api.Num
	m        string
	word     map[int]string // ready, busy, bad
	pairs    map[int]bind.Pair
	in       map[int]int // the number of the session that a node was in last
	sittings []*sitting
	done     *sitting
}

// those are the nodes that have a word, rising.
func (p *plain) those(word string) []int {
	var out []int
	for node := 1; node <= p.n; node++ {
		if p.word[node] == word {
			out = append(out, node)
		}
	}
	return out
}

// begin is what Begin tells.
func (p *plain) begin(pair bind.Pair) (roast.Session, bool, api.Errno) {
	none := roast.Session{}
	switch {
	case p.done != nil:
		return none, false, api.ErrState
	case pair.Node < 1 || pair.Node > p.n:
		return none, false, api.ErrArg
	case p.word[pair.Node] != "":
		return none, false, api.ErrState
	}
	for _, a := range []api.Point{pair.D, pair.E} {
		if a.Inf || curve.Check(a) != api.OK {
			p.word[pair.Node] = "bad"
			return none, false, api.ErrCurve
		}
	}
	p.word[pair.Node], p.pairs[pair.Node] = "ready", pair
	nodes := p.those("ready")
	if len(nodes) < len(p.line) {
		return none, false, api.OK
	}
	var l []bind.Pair
	for _, node := range nodes {
		l = append(l, p.pairs[node])
		p.word[node], p.in[node] = "busy", len(p.sittings)+1
	}
	s := &sitting{l: l}
	s.right, s.sig = rightOf(p.line, p.m, l)
	p.sittings = append(p.sittings, s)
	return roast.Session{Number: len(p.sittings), L: l}, true, api.OK
}

// share is what Share tells.
func (p *plain) share(session, node int, z api.Num, next bind.Pair) (roast.Session, bool, api.Errno) {
	none := roast.Session{}
	switch {
	case p.done != nil:
		return none, false, api.ErrState
	case node < 1 || node > p.n:
		return none, false, api.ErrArg
	case p.word[node] != "busy" || p.in[node] != session:
		return none, false, api.ErrNone
	}
	s := p.sittings[session-1]
	p.word[node] = "bad"
	switch {
	case bigOf(z).Cmp(bigQ) >= 0:
		return none, false, api.ErrRange
	case z != s.right[node]:
		return none, false, api.ErrShare
	}
	s.shares++
	switch {
	case s.shares == len(s.l):
		p.word[node], p.done = "", s
		return none, false, api.OK
	case next.Node != node:
		return none, false, api.ErrArg
	}
	p.word[node] = ""
	return p.begin(next)
}

// fail is what Fail tells.
func (p *plain) fail(node int) (bool, api.Errno) {
	if node < 1 || node > p.n {
		return false, api.ErrArg
	}
	was := p.word[node]
	p.word[node] = "bad"
	return was != "bad", api.OK
}

// A rig is a coordinator and a plain one, which are told the same.
type rig struct {
	t *testing.T
	r *roast.Roast
	p *plain
}

// rigOf is one of a table, of whose nodes none answered.
func rigOf(t *testing.T, n, f int, m string) rig {
	t.Helper()
	line := lineOf(f)
	r, e := roast.New(n, f, groupOf(line), m)
	if r == nil || e != api.OK {
		t.Fatalf("New(%d, %d): %v, %v", n, f, r, e)
	}
	p := &plain{n: n, line: line, m: m, word: map[int]string{}, pairs: map[int]bind.Pair{}, in: map[int]int{}}
	return rig{t, r, p}
}

// right is a node's right share of the session that it was in last.
func (x rig) right(node int) api.Num { return x.p.sittings[x.p.in[node]-1].right[node] }

// begin has both be told a first pair.
func (x rig) begin(pair bind.Pair) api.Errno {
	x.t.Helper()
	s, is, e := x.r.Begin(pair)
	want, wantIs, none := x.p.begin(pair)
	x.same("Begin", s, is, e, want, wantIs, none)
	return e
}

// share has both be told a share.
func (x rig) share(session, node int, z api.Num, next bind.Pair) api.Errno {
	x.t.Helper()
	s, is, e := x.r.Share(session, node, z, next)
	want, wantIs, none := x.p.share(session, node, z, next)
	x.same("Share", s, is, e, want, wantIs, none)
	return e
}

// fail has a node be bad in both.
func (x rig) fail(node int) {
	x.t.Helper()
	was, e := x.r.Fail(node)
	if wantWas, want := x.p.fail(node); was != wantWas || e != want {
		x.t.Fatalf("Fail(%d): %v, %v, not %v, %v", node, was, e, wantWas, want)
	}
	x.like()
}

// same looks for whether both told the same, and are alike.
func (x rig) same(what string, s roast.Session, is bool, e api.Errno, want roast.Session, wantIs bool, none api.Errno) {
	x.t.Helper()
	if s.Number != want.Number || !slices.Equal(s.L, want.L) || is != wantIs || e != none {
		x.t.Fatalf("%s: %v, %v, %v, not %v, %v, %v", what, s, is, e, want, wantIs, none)
	}
	x.like()
}

// like looks for whether both are alike.
func (x rig) like() {
	x.t.Helper()
	var sig api.Sig
	if x.p.done != nil {
		sig = x.p.done.sig
	}
	looks(x.t, x.r, x.p.those("bad"), x.p.those("busy"), len(x.p.sittings), sig, x.p.done != nil)
}

// is looks for nodes that are bad and busy, and for how many sessions there are, of a coordinator that is not done.
func (x rig) is(bad, busy []int, sessions int) {
	x.t.Helper()
	looks(x.t, x.r, bad, busy, sessions, api.Sig{}, false)
}

// looks looks for all that a coordinator tells without being changed.
func looks(t *testing.T, r *roast.Roast, bad, busy []int, sessions int, sig api.Sig, done bool) {
	t.Helper()
	if got := r.Bad(); !slices.Equal(got, bad) {
		t.Fatalf("Bad: %v, not %v", got, bad)
	}
	if got := r.Busy(); !slices.Equal(got, busy) {
		t.Fatalf("Busy: %v, not %v", got, busy)
	}
	if got := r.Sessions(); got != sessions {
		t.Fatalf("Sessions: %d, not %d", got, sessions)
	}
	if got, is := r.Done(); got != sig || is != done {
		t.Fatalf("Done: %v, %v, not %v, %v", got, is, sig, done)
	}
}
