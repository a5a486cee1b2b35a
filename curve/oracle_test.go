package curve_test

import (
	"math/big"

	"wardmote/api"
	"wardmote/limb"
)

// What curve ought to answer, by the document's words and whole numbers: lines and tangents, an inverse for each.

func bigOf(a api.Num) *big.Int { return new(big.Int).SetBytes([]byte(limb.Bytes(a))) }

func numOf(a *big.Int) api.Num {
	out, _ := limb.FromBytes(string(a.FillBytes(make([]byte, 32))))
	return out
}

func numHex(s string) api.Num {
	n, _ := new(big.Int).SetString(s, 16)
	return numOf(n)
}

func modP(a *big.Int) *big.Int { return a.Mod(a, bigOf(p)) }

func negative(a api.Point) api.Point {
	return api.Point{X: a.X, Y: numOf(modP(new(big.Int).Neg(bigOf(a.Y)))), Inf: a.Inf}
}

// sum is the sum of two points.
func sum(a, b api.Point) api.Point {
	switch {
	case a.Inf:
		return b
	case b.Inf:
		return a
	case a == negative(b):
		return infinity
	}
	ax, ay, bx, by := bigOf(a.X), bigOf(a.Y), bigOf(b.X), bigOf(b.Y)
	up, across := new(big.Int).Sub(by, ay), new(big.Int).Sub(bx, ax)
	if a == b {
		up.Mul(big.NewInt(3), up.Mul(ax, ax))
		across.Lsh(ay, 1)
	}
	slope := modP(up.Mul(up, across.ModInverse(modP(across), bigOf(p))))
	x := new(big.Int).Mul(slope, slope)
	x = modP(x.Sub(x.Sub(x, ax), bx))
	y := new(big.Int).Sub(ax, x)
	y = modP(y.Sub(y.Mul(y, slope), ay))
	return api.Point{X: numOf(x), Y: numOf(y)}
}

// number is k times a point.
func number(k *big.Int, a api.Point) api.Point {
	if k.Sign() < 0 {
		return number(new(big.Int).Neg(k), negative(a))
	}
	out := infinity
	for i := k.BitLen() - 1; i >= 0; i-- {
		out = sum(out, out)
		if k.Bit(i) == 1 {
			out = sum(out, a)
		}
	}
	return out
}

// rootOfX is a Y that goes with an X, or nil.
func rootOfX(x *big.Int) *big.Int {
	square := new(big.Int).Exp(x, big.NewInt(3), nil)
	square = modP(square.Add(square, big.NewInt(7)))
	return new(big.Int).ModSqrt(square, bigOf(p))
}

// ofParity is the one of y and -y that is even (0) or odd (1).
func ofParity(y *big.Int, odd uint64) *big.Int {
	if uint64(y.Bit(0)) == odd {
		return y
	}
	return new(big.Int).Sub(bigOf(p), y)
}

// withX is the point of a small X (of which there is one) whose Y is even (0) or odd (1).
func withX(x, odd uint64) api.Point {
	y := rootOfX(new(big.Int).SetUint64(x))
	return api.Point{X: api.Num{x}, Y: numOf(ofParity(y, odd))}
}

// withLowY is the point of the smallest Y of which there is one, so that Y + P is below 2^256.
func withLowY() api.Point {
	root := new(big.Int).Div(new(big.Int).Add(bigOf(p), big.NewInt(2)), big.NewInt(9))
	for y := int64(1); ; y++ {
		cube := modP(big.NewInt(y*y - 7))
		// P is 7 mod 9: the cube of a number that has a cube root, to that power, is itself.
		x := new(big.Int).Exp(cube, root, bigOf(p))
		if new(big.Int).Exp(x, big.NewInt(3), bigOf(p)).Cmp(cube) == 0 {
			return api.Point{X: numOf(x), Y: api.Num{uint64(y)}}
		}
	}
}
