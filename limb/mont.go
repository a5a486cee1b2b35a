package limb

import (
	"math/bits"

	"wardmote/api"
)

// Mont is Montgomery's way for a number. Its zero value takes no number at all.
type Mont struct {
	modulus api.Num
	square  api.Num // R^2 mod the modulus, which brings R to a number
	cancel  uint64  // a lowest limb times this is how many moduli make that limb 0
}

// NewMont is Montgomery's way for a number.
func NewMont(m api.Num) (*Mont, api.Errno) {
	if m[0]&1 == 0 || m == (api.Num{1}) {
		return nil, api.ErrArg
	}
	r, _ := Mod(api.Wide{4: 1}, m)
	square, _ := Mod(Mul(r, r), m)
	return &Mont{modulus: m, square: square, cancel: -inverse(m[0])}, api.OK
}

// inverse is the number whose product with an odd one is 1 mod 2^64.
func inverse(odd uint64) uint64 {
	// An odd number is its own inverse mod 2^3, and each time twice as many bits are right.
	x := odd
	for right := 3; right < 64; right *= 2 {
		x *= 2 - odd*x
	}
	return x
}

func (x *Mont) has(a api.Num) bool { return x != nil && Cmp(a, x.modulus) < 0 }

// Mul is a product, less R once.
func (x *Mont) Mul(a, b api.Num) (api.Num, api.Errno) {
	if !x.has(a) || !x.has(b) {
		return api.Num{}, api.ErrArg
	}
	return x.strip(Mul(a, b)), api.OK
}

// strip takes R from a number below R times the modulus.
func (x *Mont) strip(w api.Wide) api.Num {
	low, over := api.Num{w[0], w[1], w[2], w[3]}, uint64(0)
	for i := range low {
		var row uint64
		_, low[0], low[1], low[2], row = addRow(low[0]*x.cancel, &x.modulus, low[0], low[1], low[2], low[3])
		low[3], over = bits.Add64(w[i+4], row, over)
	}
	return lessOnce(over, low, x.modulus)
}

// To is a number with R.
func (x *Mont) To(a api.Num) (api.Num, api.Errno) {
	if x == nil {
		return api.Num{}, api.ErrArg
	}
	return x.Mul(a, x.square)
}

// From is a number without R.
func (x *Mont) From(a api.Num) (api.Num, api.Errno) { return x.Mul(a, api.Num{1}) }
