package limb_test

import (
	"math/big"
	"testing"

	"wardmote/api"
	"wardmote/limb"
)

// oddNumbers are moduli of all lengths, those at R among them.
func oddNumbers() []api.Num {
	var out []api.Num
	for _, m := range someNumbers() {
		if m[0]&1 == 1 && m != (api.Num{1}) {
			out = append(out, m)
		}
	}
	return out
}

// below are some numbers below m, 0 and m - 1 among them.
func below(m api.Num) []api.Num {
	last, _ := limb.Sub(m, api.Num{1})
	out := []api.Num{{}, {1}, last}
	for i, a := range someNumbers() {
		if i%5 == 0 {
			rest, _ := limb.Mod(api.Wide{a[0], a[1], a[2], a[3]}, m)
			out = append(out, rest)
		}
	}
	return out
}

// notBelow are some numbers at m and above.
func notBelow(m api.Num) []api.Num {
	out := []api.Num{m, most}
	if next, carry := limb.Add(m, api.Num{1}); carry == 0 {
		out = append(out, next)
	}
	return out
}

func montOf(t *testing.T, m api.Num) *limb.Mont {
	t.Helper()
	x, e := limb.NewMont(m)
	if x == nil || e != api.OK {
		t.Fatalf("NewMont(%x): %v, %v", m, x, e)
	}
	return x
}

// 1.3: an even modulus, 0 among them, and 1 are refused.
func TestNewMontRefuses(t *testing.T) {
	evens := []api.Num{{}, {1}, {2}, {ones - 1}, {0, 1}, {0, 1, 1, 1}, {0, 0, 0, 1 << 63}, {ones - 1, ones, ones, ones}}
	for _, m := range evens {
		if x, e := limb.NewMont(m); x != nil || e != api.ErrArg {
			t.Errorf("NewMont(%x): %v, %v", m, x, e)
		}
	}
	montOf(t, api.Num{3})
	montOf(t, api.Num{1, 0, 0, 1})
}

// 1.3: a b R^-1, a R and a R^-1, each below m.
func TestMont(t *testing.T) {
	for _, m := range oddNumbers() {
		x, mod := montOf(t, m), bigNum(m)
		inverse := new(big.Int).ModInverse(r(), mod)
		reckon := func(factors ...*big.Int) *big.Int {
			out := big.NewInt(1)
			for _, f := range factors {
				out.Mul(out, f)
			}
			return out.Mod(out, mod)
		}
		for _, a := range below(m) {
			with, e := x.To(a)
			same(t, "To", with, reckon(bigNum(a), r()))
			without, f := x.From(a)
			same(t, "From", without, reckon(bigNum(a), inverse))
			if e != api.OK || f != api.OK {
				t.Fatalf("To, From of %x mod %x: %v, %v", a, m, e, f)
			}
			for _, b := range below(m) {
				product, e := x.Mul(a, b)
				if e != api.OK {
					t.Fatalf("Mul(%x, %x) mod %x: %v", a, b, m, e)
				}
				same(t, "Mul", product, reckon(bigNum(a), bigNum(b), inverse))
			}
		}
	}
}

// 1.3, R4: what is not below m is refused, whichever it is, and nothing stands beside the error.
func TestMontRefuses(t *testing.T) {
	for _, m := range oddNumbers() {
		x := montOf(t, m)
		for _, a := range notBelow(m) {
			refused(t, "Mul, first", x, a, api.Num{1})
			refused(t, "Mul, second", x, api.Num{1}, a)
			refused(t, "Mul, both", x, a, a)
			if n, e := x.To(a); n != (api.Num{}) || e != api.ErrArg {
				t.Errorf("To(%x) mod %x: %x, %v", a, m, n, e)
			}
			if n, e := x.From(a); n != (api.Num{}) || e != api.ErrArg {
				t.Errorf("From(%x) mod %x: %x, %v", a, m, n, e)
			}
		}
	}
}

func refused(t *testing.T, what string, x *limb.Mont, a, b api.Num) {
	t.Helper()
	if n, e := x.Mul(a, b); n != (api.Num{}) || e != api.ErrArg {
		t.Errorf("%s (%x, %x): %x, %v", what, a, b, n, e)
	}
}

// 1.3, P1: a nil Mont, and one that NewMont did not make, take nothing and do not panic.
func TestNilMont(t *testing.T) {
	for _, x := range []*limb.Mont{nil, {}} {
		for _, a := range []api.Num{{}, {1}, most} {
			refused(t, "Mul", x, a, a)
			if n, e := x.To(a); n != (api.Num{}) || e != api.ErrArg {
				t.Errorf("To(%x): %x, %v", a, n, e)
			}
			if n, e := x.From(a); n != (api.Num{}) || e != api.ErrArg {
				t.Errorf("From(%x): %x, %v", a, n, e)
			}
		}
	}
}

// 1.6: To and From undo each other, and products go through them.
func TestMontThereAndBack(t *testing.T) {
	for _, m := range oddNumbers() {
		x := montOf(t, m)
		for _, a := range below(m) {
			with, _ := x.To(a)
			if back, e := x.From(with); back != a || e != api.OK {
				t.Fatalf("From(To(%x)) mod %x: %x, %v", a, m, back, e)
			}
			for _, b := range below(m) {
				other, _ := x.To(b)
				product, _ := x.Mul(with, other)
				got, _ := x.From(product)
				want, _ := limb.Mod(limb.Mul(a, b), m)
				if got != want {
					t.Fatalf("%x times %x mod %x: %x, not %x", a, b, m, got, want)
				}
			}
		}
	}
}

// R6: the same call tells the same, and a Mont is not changed by its calls.
func TestMontTellsTheSame(t *testing.T) {
	x := montOf(t, api.Num{97})
	first, _ := x.Mul(api.Num{55}, api.Num{66})
	x.To(api.Num{12})
	x.Mul(api.Num{97}, api.Num{1})
	if again, _ := x.Mul(api.Num{55}, api.Num{66}); again != first {
		t.Errorf("Mul: %x, then %x", first, again)
	}
}
