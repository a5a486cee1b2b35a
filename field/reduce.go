package field

import (
	"math/bits"

	"wardmote/api"
)

// Nearly all of a curve's time goes to remainders, so these are reckoned on limbs that stand by themselves:
// the same by limb.Mul and limb.Add takes twice as long.

// Reduce is a remainder.
func (f *Field) Reduce(w api.Wide) api.Num {
	if f == nil {
		return api.Num{}
	}
	a0, a1, a2, a3 := w[0], w[1], w[2], w[3]
	b0, b1, b2, b3 := w[4], w[5], w[6], w[7]
	// b 2^256 is b gap mod the modulus, and that is smaller each time; the gap's highest limb is 0.
	for b0|b1|b2|b3 != 0 {
		var c0, c1, c2 uint64
		a0, a1, a2, a3, c0 = addRow(f.gap[0], b0, b1, b2, b3, a0, a1, a2, a3)
		a1, a2, a3, c0, c1 = addRow(f.gap[1], b0, b1, b2, b3, a1, a2, a3, c0)
		a2, a3, c0, c1, c2 = addRow(f.gap[2], b0, b1, b2, b3, a2, a3, c0, c1)
		b0, b1, b2, b3 = c0, c1, c2, 0
	}
	return f.lessOnce(0, a0, a1, a2, a3)
}

// addRow is d times the number b more than the number a: its four lowest limbs, and the one behind them.
func addRow(d, b0, b1, b2, b3, a0, a1, a2, a3 uint64) (uint64, uint64, uint64, uint64, uint64) {
	// P's gap has one limb that is not 0.
	if d == 0 {
		return a0, a1, a2, a3, 0
	}
	carry, a0 := mulAdd(d, b0, a0, 0)
	carry, a1 = mulAdd(d, b1, a1, carry)
	carry, a2 = mulAdd(d, b2, a2, carry)
	carry, a3 = mulAdd(d, b3, a3, carry)
	return a0, a1, a2, a3, carry
}

// mulAdd is a b + c + d, which is always below 2^128, as a high limb and a low one.
func mulAdd(a, b, c, d uint64) (uint64, uint64) {
	high, low := bits.Mul64(a, b)
	low, carry := bits.Add64(low, c, 0)
	high += carry
	low, carry = bits.Add64(low, d, 0)
	return high + carry, low
}

// lessOnce is the remainder of over 2^256 + a, which is below twice the modulus.
func (f *Field) lessOnce(over, a0, a1, a2, a3 uint64) api.Num {
	r0, borrow := bits.Sub64(a0, f.modulus[0], 0)
	r1, borrow := bits.Sub64(a1, f.modulus[1], borrow)
	r2, borrow := bits.Sub64(a2, f.modulus[2], borrow)
	r3, borrow := bits.Sub64(a3, f.modulus[3], borrow)
	if over == 0 && borrow == 1 {
		return api.Num{a0, a1, a2, a3}
	}
	return api.Num{r0, r1, r2, r3}
}
