package audit_test

import (
	"math/big"
	"math/rand"
	"testing"

	"wardmote/api"
	"wardmote/audit"
	"wardmote/bind"
	"wardmote/curve"
	"wardmote/field"
	"wardmote/limb"
	"wardmote/node"
)

// What is looked for, each thing held against all ahead of it, and reckoned in math/big.

const ones = ^uint64(0)

var (
	most = api.Num{ones, ones, ones, ones}
	p    = field.Base().Modulus()
	q    = field.Scalars().Modulus()
	bigQ = bigOf(q)
	g    = curve.G()

	// last is the greatest scalar.
	last = scalarOf(big.NewInt(-1))

	// greats are no scalars: Q, the numbers next to it, P and the greatest.
	greats = []api.Num{q, {q[0] + 1, q[1], q[2], q[3]}, p, {3: ones, 2: ones}, most}
)

func bigOf(a api.Num) *big.Int { return new(big.Int).SetBytes([]byte(limb.Bytes(a))) }

// scalarOf is a number mod Q.
func scalarOf(a *big.Int) api.Num {
	out, _ := limb.FromBytes(string(new(big.Int).Mod(a, bigQ).FillBytes(make([]byte, 32))))
	return out
}

// times is a product mod Q.
func times(a, b api.Num) api.Num { return scalarOf(new(big.Int).Mul(bigOf(a), bigOf(b))) }

// plus is a sum mod Q.
func plus(l ...api.Num) api.Num {
	sum := new(big.Int)
	for _, a := range l {
		sum.Add(sum, bigOf(a))
	}
	return scalarOf(sum)
}

// newSource is one that draws the same again and again.
func newSource(seed int64) *rand.Rand { return rand.New(rand.NewSource(seed)) }

// drawn is a scalar, often a small one or one near Q.
func drawn(source *rand.Rand) api.Num {
	edges := []api.Num{{}, {1}, {2}, {3}, last, scalarOf(big.NewInt(-2))}
	if source.Intn(2) == 0 {
		return edges[source.Intn(len(edges))]
	}
	return scalarOf(new(big.Int).Rand(source, bigQ))
}

// point is a multiple of G.
func point(n uint64) api.Point {
	out, _ := curve.Mul(api.Num{n}, g)
	return out
}

// pair is one of a node.
func pair(i int, d, e uint64) bind.Pair { return bind.Pair{Node: i, D: point(d), E: point(e)} }

// unlike are pairs of which no two are the same, though some of them are so but for one thing.
func unlike() []bind.Pair {
	base := pair(1, 1, 2)
	out := []bind.Pair{base, pair(2, 1, 2), pair(1, 2, 1), pair(1, 1, 1), pair(1, 2, 2), {}, {Node: 1}, {D: g}, {E: g}, {Node: -1}, {Node: 1 << 40}}
	change := func(do func(a *bind.Pair)) {
		other := base
		do(&other)
		out = append(out, other)
	}
	change(func(a *bind.Pair) { a.Node += 1 << 32 })
	change(func(a *bind.Pair) { a.D.Inf = true })
	change(func(a *bind.Pair) { a.E.Inf = true })
	for i := range 4 {
		change(func(a *bind.Pair) { a.D.X[i] ^= 1 << 63 })
		change(func(a *bind.Pair) { a.D.Y[i]++ })
		change(func(a *bind.Pair) { a.E.X[i]-- })
		change(func(a *bind.Pair) { a.E.Y[i] ^= 1 << 32 })
	}
	return out
}

// changed are numbers of which no two are the same, though some of them are so but for one limb.
func changed() []api.Num {
	base := api.Num{5, 6, 7, 8}
	out := []api.Num{base, {}, {8, 7, 6, 5}, q, most}
	for i := range base {
		other := base
		other[i] ^= 1 << 63
		out = append(out, other)
	}
	return out
}

// plainTwice holds each emit against all ahead.
func plainTwice(l []node.Emit) (int, int, bool) {
	for at := range l {
		for ahead := range at {
			if l[ahead].Pair == l[at].Pair && l[ahead].Challenge != l[at].Challenge {
				return ahead, at, true
			}
		}
	}
	return 0, 0, false
}

// plainLeak reckons in math/big.
func plainLeak(a, b audit.Told) (api.Num, api.Errno) {
	for _, t := range []audit.Told{a, b} {
		for _, n := range []api.Num{t.Factor, t.Weight, t.Challenge, t.Z} {
			if bigOf(n).Cmp(bigQ) >= 0 {
				return api.Num{}, api.ErrRange
			}
		}
	}
	down := new(big.Int).Sub(bigOf(times(a.Weight, a.Challenge)), bigOf(times(b.Weight, b.Challenge)))
	if a.Pair != b.Pair || a.Factor != b.Factor || down.Sign() == 0 {
		return api.Num{}, api.ErrArg
	}
	up := new(big.Int).Sub(bigOf(a.Z), bigOf(b.Z))
	return scalarOf(up.Mul(up, down.ModInverse(down.Mod(down, bigQ), bigQ))), api.OK
}

// plainFind holds each share against all ahead.
func plainFind(l []audit.Told) (int, api.Num, bool) {
	for at := range l {
		for ahead := range at {
			if x, e := plainLeak(l[ahead], l[at]); e == api.OK {
				return l[at].Pair.Node, x, true
			}
		}
	}
	return 0, api.Num{}, false
}

// twice looks for the places of a nonce that was used twice.
func twice(t *testing.T, l []node.Emit, ahead, at int, is bool) {
	t.Helper()
	if i, j, got := audit.Twice(l); i != ahead || j != at || got != is {
		t.Errorf("Twice of %d: %d, %d, %t, not %d, %d, %t", len(l), i, j, got, ahead, at, is)
	}
}

// distinct looks for how many pairs there are.
func distinct(t *testing.T, l []node.Emit, want int) {
	t.Helper()
	if got := audit.Distinct(l); got != want {
		t.Errorf("Distinct of %d: %d, not %d", len(l), got, want)
	}
}

// leaks looks for what two shares give away, whichever is first.
func leaks(t *testing.T, a, b audit.Told, want api.Num, none api.Errno) {
	t.Helper()
	for range 2 {
		if got, e := audit.Leak(a, b); got != want || e != none {
			t.Errorf("Leak(%v, %v): %v, %v, not %v, %v", a, b, got, e, want, none)
		}
		a, b = b, a
	}
}

// finds looks for the first secret that is given away.
func finds(t *testing.T, l []audit.Told, i int, x api.Num, is bool) {
	t.Helper()
	if whose, got, found := audit.Find(l); whose != i || got != x || found != is {
		t.Errorf("Find of %d: %d, %v, %t, not %d, %v, %t", len(l), whose, got, found, i, x, is)
	}
}
