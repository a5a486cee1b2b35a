// Package field is layer 2: the two fields of the curve. See shared/doc/02-field.md.
package field

import (
	"wardmote/api"
	"wardmote/limb"
)

// The primes P and Q.
var (
	primeP = api.Num{0xFFFFFFFEFFFFFC2F, 0xFFFFFFFFFFFFFFFF, 0xFFFFFFFFFFFFFFFF, 0xFFFFFFFFFFFFFFFF}
	primeQ = api.Num{0xBFD25E8CD0364141, 0xBAAEDCE6AF48A03B, 0xFFFFFFFFFFFFFFFE, 0xFFFFFFFFFFFFFFFF}
)

// rootPower is (P + 1) / 4: a square to that power is one of its roots, as P is 3 mod 4.
var rootPower = api.Num{0xFFFFFFFFBFFFFF0C, 0xFFFFFFFFFFFFFFFF, 0xFFFFFFFFFFFFFFFF, 0x3FFFFFFFFFFFFFFF}

// Field is a field of numbers below a prime. Its zero value has no number at all.
type Field struct {
	modulus api.Num
	gap     api.Num // 2^256 less the modulus, which is what 2^256 is mod the modulus
}

func newField(modulus api.Num) *Field {
	gap, _ := limb.Sub(api.Num{}, modulus)
	return &Field{modulus: modulus, gap: gap}
}

// Base is the field of the coordinates.
func Base() *Field { return newField(primeP) }

// Scalars is the field of the scalars.
func Scalars() *Field { return newField(primeQ) }

// Modulus is its prime.
func (f *Field) Modulus() api.Num {
	if f == nil {
		return api.Num{}
	}
	return f.modulus
}

// Check tells whether a number is one of it.
func (f *Field) Check(a api.Num) api.Errno {
	if f == nil {
		return api.ErrState
	}
	if limb.Cmp(a, f.modulus) >= 0 {
		return api.ErrRange
	}
	return api.OK
}

// Add is a sum.
func (f *Field) Add(a, b api.Num) (api.Num, api.Errno) { return f.join(f.plus, a, b) }

// Sub is a difference.
func (f *Field) Sub(a, b api.Num) (api.Num, api.Errno) { return f.join(f.minus, a, b) }

// Mul is a product.
func (f *Field) Mul(a, b api.Num) (api.Num, api.Errno) { return f.join(f.times, a, b) }

// Neg is a negative.
func (f *Field) Neg(a api.Num) (api.Num, api.Errno) { return f.join(f.minus, api.Num{}, a) }

// Inv is an inverse.
func (f *Field) Inv(a api.Num) (api.Num, api.Errno) {
	if e := f.Check(a); e != api.OK {
		return api.Num{}, e
	}
	if a == (api.Num{}) {
		return api.Num{}, api.ErrZero
	}
	// To the modulus less 1 every number but 0 is 1.
	less2, _ := limb.Sub(f.modulus, api.Num{2})
	return power(f.times, a, less2), api.OK
}

// Pow is a power.
func (f *Field) Pow(a, e api.Num) (api.Num, api.Errno) {
	if bad := f.Check(a); bad != api.OK {
		return api.Num{}, bad
	}
	return power(f.times, a, e), api.OK
}

// Sqrt is the even one of a number's two roots.
func (f *Field) Sqrt(a api.Num) (api.Num, api.Errno) {
	if e := f.Check(a); e != api.OK {
		return api.Num{}, e
	}
	if f.modulus != primeP {
		return api.Num{}, api.ErrState
	}
	root := power(f.times, a, rootPower)
	if f.times(root, root) != a {
		return api.Num{}, api.ErrRoot
	}
	return limb.Select(root[0], f.minus(api.Num{}, root), root), api.OK
}

// Encode are a number's bytes.
func (f *Field) Encode(a api.Num) (string, api.Errno) {
	if e := f.Check(a); e != api.OK {
		return "", e
	}
	return limb.Bytes(a), api.OK
}

// Decode is the number that bytes are.
func (f *Field) Decode(s string) (api.Num, api.Errno) {
	if f == nil {
		return api.Num{}, api.ErrState
	}
	a, e := limb.FromBytes(s)
	if e != api.OK {
		return api.Num{}, e
	}
	if e := f.Check(a); e != api.OK {
		return api.Num{}, e
	}
	return a, api.OK
}
