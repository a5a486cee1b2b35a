// Package limb is layer 1: numbers of 256 bits, limb by limb. See shared/doc/01-limb.md.
package limb

import (
	"math/bits"

	"wardmote/api"
)

// A digit is one limb of a number; its methods are the steps that go along a number's limbs.
type digit uint64

func (d digit) plus(e digit, carry uint64) (digit, uint64) {
	sum, out := bits.Add64(uint64(d), uint64(e), carry)
	return digit(sum), out
}

func (d digit) minus(e digit, borrow uint64) (digit, uint64) {
	rest, out := bits.Sub64(uint64(d), uint64(e), borrow)
	return digit(rest), out
}

// along takes a step at each limb, the lowest first, and hands its carry to the next one.
func along(step func(d, e digit, carry uint64) (digit, uint64), a, b *api.Num) (out api.Num, carry uint64) {
	for i := range out {
		var d digit
		d, carry = step(digit(a[i]), digit(b[i]), carry)
		out[i] = uint64(d)
	}
	return out, carry
}

// Add is a sum, and its carry.
func Add(a, b api.Num) (api.Num, uint64) { return along(digit.plus, &a, &b) }

// Sub is a difference, and its borrow.
func Sub(a, b api.Num) (api.Num, uint64) { return along(digit.minus, &a, &b) }

// Mul is a product.
func Mul(a, b api.Num) api.Wide {
	w0, w1, w2, w3, w4 := addRow(a[0], &b, 0, 0, 0, 0)
	w1, w2, w3, w4, w5 := addRow(a[1], &b, w1, w2, w3, w4)
	w2, w3, w4, w5, w6 := addRow(a[2], &b, w2, w3, w4, w5)
	w3, w4, w5, w6, w7 := addRow(a[3], &b, w3, w4, w5, w6)
	return api.Wide{w0, w1, w2, w3, w4, w5, w6, w7}
}

// addRow is d b more than the limbs w0 to w3: those limbs, and one behind them.
func addRow(d uint64, b *api.Num, w0, w1, w2, w3 uint64) (uint64, uint64, uint64, uint64, uint64) {
	carry, w0 := mulAdd(d, b[0], w0, 0)
	carry, w1 = mulAdd(d, b[1], w1, carry)
	carry, w2 = mulAdd(d, b[2], w2, carry)
	carry, w3 = mulAdd(d, b[3], w3, carry)
	return w0, w1, w2, w3, carry
}

// mulAdd is a b + c + d, which is always below 2^128, as a high limb and a low one.
func mulAdd(a, b, c, d uint64) (uint64, uint64) {
	high, low := bits.Mul64(a, b)
	low, carry := bits.Add64(low, c, 0)
	high += carry
	low, carry = bits.Add64(low, d, 0)
	return high + carry, low
}

// Cmp compares two numbers.
func Cmp(a, b api.Num) int {
	for i := len(a) - 1; i >= 0; i-- {
		if a[i] < b[i] {
			return -1
		}
		if a[i] > b[i] {
			return 1
		}
	}
	return 0
}

// Select is one of two numbers: a, if the lowest bit is 1.
func Select(bit uint64, a, b api.Num) api.Num {
	if bit&1 == 1 {
		return a
	}
	return b
}

// Bit is bit i, from the lowest on.
func Bit(a api.Num, i int) uint64 {
	if i < 0 || i > 255 {
		return 0
	}
	return a[i/64] >> (i % 64) & 1
}

// Mod is a remainder.
func Mod(w api.Wide, m api.Num) (api.Num, api.Errno) {
	if m == (api.Num{}) {
		return api.Num{}, api.ErrArg
	}
	var rest api.Num
	for i := 511; i >= 0; i-- {
		var carry uint64
		rest, carry = Add(rest, rest)
		rest[0] |= w[i/64] >> (i % 64) & 1
		rest = lessOnce(carry, rest, m)
	}
	return rest, api.OK
}

// lessOnce is the remainder by m of carry R + a, which is below 2 m.
func lessOnce(carry uint64, a, m api.Num) api.Num {
	rest, borrow := Sub(a, m)
	return Select(carry|^borrow, rest, a)
}

// Bytes are a number's, the highest first.
func Bytes(a api.Num) string {
	var out [32]byte
	for i := range out {
		place := len(out) - 1 - i
		out[i] = byte(a[place/8] >> (place % 8 * 8))
	}
	return string(out[:])
}

// FromBytes is the number that bytes are.
func FromBytes(s string) (api.Num, api.Errno) {
	var out api.Num
	if len(s) != 8*len(out) {
		return out, api.ErrForm
	}
	for i := range len(s) {
		place := len(s) - 1 - i
		out[place/8] |= uint64(s[i]) << (place % 8 * 8)
	}
	return out, api.OK
}
