package schnorr_test

import (
	"crypto/sha256"
	"encoding/binary"
	"math/big"
	"math/rand"
	"strings"
	"testing"

	"wardmote/api"
	"wardmote/curve"
	"wardmote/field"
	"wardmote/limb"
)

// What signatures are: scalars reckoned in math/big, challenges by crypto/sha256.

const ones = ^uint64(0)

var (
	most     = api.Num{ones, ones, ones, ones}
	p        = field.Base().Modulus()
	q        = field.Scalars().Modulus()
	bigQ     = bigOf(q)
	infinity = api.Point{Inf: true}
	g        = curve.G()

	// full has as many bytes as a message may have, and long one more.
	full = strings.Repeat("m", api.MaxText)
	long = full + "m"

	// scalars are at the ends and anywhere, none of them 0.
	scalars = makeScalars()

	// greats are no scalars: Q, the numbers next to it, P and the greatest.
	greats = []api.Num{q, more(q, api.Num{1}), p, {3: ones, 2: ones}, most}

	// strangers are no points: beside the curve, with a coordinate from P on, infinite with a coordinate.
	strangers = []api.Point{
		{}, {X: g.X}, {X: g.Y, Y: g.X}, {X: g.X, Y: more(g.Y, api.Num{1})}, {X: more(withX(1).X, p), Y: withX(1).Y},
		{X: g.X, Y: most}, {X: g.X, Y: g.Y, Inf: true}, {X: p, Inf: true}, {Y: api.Num{1}, Inf: true},
	}
)

func makeScalars() []api.Num {
	out := []api.Num{{1}, {2}, {0, 0, 0, 1 << 63}, scalarOf(big.NewInt(-2)), scalarOf(big.NewInt(-1))}
	source := rand.New(rand.NewSource(31))
	for range 3 {
		out = append(out, scalarOf(new(big.Int).Rand(source, bigQ)))
	}
	return out
}

func more(a, b api.Num) api.Num {
	out, _ := limb.Add(a, b)
	return out
}

func bigOf(a api.Num) *big.Int { return new(big.Int).SetBytes([]byte(limb.Bytes(a))) }

// scalarOf is a number mod Q, also of one below 0.
func scalarOf(a *big.Int) api.Num {
	out, _ := limb.FromBytes(string(new(big.Int).Mod(a, bigQ).FillBytes(make([]byte, 32))))
	return out
}

// near is a scalar that is so much more.
func near(a api.Num, n int64) api.Num {
	return scalarOf(new(big.Int).Add(bigOf(a), big.NewInt(n)))
}

// withX is a point of a small X, of which nobody knows which multiple of G it is.
func withX(x uint64) api.Point {
	out, _ := curve.Decode("\x02" + limb.Bytes(api.Num{x}))
	return out
}

// timesG is a number times G.
func timesG(a api.Num) api.Point {
	out, _ := curve.Mul(a, g)
	return out
}

// codeOf are a point's bytes.
func codeOf(a api.Point) string {
	if a.Inf {
		return strings.Repeat("\x00", 33)
	}
	return string(rune(2+a.Y[0]&1)) + limb.Bytes(a.X)
}

// challengeOf is the challenge of points and a message.
func challengeOf(r, y api.Point, m string) api.Num {
	tag := "wardmote/challenge"
	hashed := append([]byte{byte(len(tag))}, tag...)
	for _, part := range []string{codeOf(r), codeOf(y), m} {
		hashed = binary.BigEndian.AppendUint32(hashed, uint32(len(part)))
		hashed = append(hashed, part...)
	}
	high, low := sha256.Sum256(append([]byte{0}, hashed...)), sha256.Sum256(append([]byte{1}, hashed...))
	return scalarOf(new(big.Int).SetBytes(append(high[:], low[:]...)))
}

// signed is the signature of a secret and a nonce.
func signed(x, k api.Num, m string) api.Sig {
	r := timesG(k)
	z := bigOf(challengeOf(r, timesG(x), m))
	z.Add(z.Mul(z, bigOf(x)), bigOf(k))
	return api.Sig{R: r, Z: scalarOf(z)}
}

func answers(t *testing.T, what string, got api.Sig, e api.Errno, want api.Sig) {
	t.Helper()
	if e != api.OK || got != want {
		t.Fatalf("%s: %v, %v, not %v", what, got, e, want)
	}
}

// fails looks for the error, and for nothing beside it (R4).
func fails(t *testing.T, what string, got api.Sig, e, want api.Errno) {
	t.Helper()
	if e != want || got != (api.Sig{}) {
		t.Errorf("%s: %v, %v, not %v", what, got, e, want)
	}
}

func tells(t *testing.T, what string, e, want api.Errno) {
	t.Helper()
	if e != want {
		t.Errorf("%s: %v, not %v", what, e, want)
	}
}
