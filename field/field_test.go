package field_test

import (
	"math/big"
	"math/rand"
	"strings"
	"testing"

	"wardmote/api"
	"wardmote/field"
	"wardmote/limb"
)

const ones = ^uint64(0)

var (
	most   = api.Num{ones, ones, ones, ones}
	bigP   = hexNumber("FFFFFFFFFFFFFFFFFFFFFFFFFFFFFFFFFFFFFFFFFFFFFFFFFFFFFFFEFFFFFC2F")
	bigQ   = hexNumber("FFFFFFFFFFFFFFFFFFFFFFFFFFFFFFFEBAAEDCE6AF48A03BBFD25E8CD0364141")
	fields = map[string]*field.Field{"Base": field.Base(), "Scalars": field.Scalars()}
)

func hexNumber(s string) *big.Int {
	n, _ := new(big.Int).SetString(s, 16)
	return n
}

func bigOf(limbs ...uint64) *big.Int {
	out := new(big.Int)
	for i := len(limbs) - 1; i >= 0; i-- {
		out.Lsh(out, 64)
		out.Or(out, new(big.Int).SetUint64(limbs[i]))
	}
	return out
}

func bigNum(a api.Num) *big.Int { return bigOf(a[:]...) }

func lessOne(a api.Num) api.Num {
	out, _ := limb.Sub(a, api.Num{1})
	return out
}

func moreOne(a api.Num) api.Num {
	out, _ := limb.Add(a, api.Num{1})
	return out
}

// members are numbers of a field: the ends, the middle, single limbs, and drawn ones, always the same.
func members(f *field.Field) []api.Num {
	m := f.Modulus()
	half := api.Num{m[0]>>1 | m[1]<<63, m[1]>>1 | m[2]<<63, m[2]>>1 | m[3]<<63, m[3] >> 1}
	out := []api.Num{
		{}, {1}, {2}, {3}, {4}, {7}, {ones}, {0, 1}, {ones, ones}, {0, 0, 1}, {0, 0, 0, 1}, {0, 0, 0, 1 << 63},
		half, moreOne(half), lessOne(m), lessOne(lessOne(m)),
	}
	source := rand.New(rand.NewSource(3))
	for range 12 {
		drawn := api.Num{source.Uint64(), source.Uint64(), source.Uint64(), source.Uint64() >> 1}
		out = append(out, drawn)
	}
	return out
}

// strangers are the numbers next to a field's, and the greatest.
func strangers(f *field.Field) []api.Num {
	return []api.Num{f.Modulus(), moreOne(f.Modulus()), lessOne(most), most}
}

func answers(t *testing.T, what string, got api.Num, e api.Errno, want *big.Int) {
	t.Helper()
	if e != api.OK || bigNum(got).Cmp(want) != 0 {
		t.Fatalf("%s: %x, %v, not %x", what, bigNum(got), e, want)
	}
}

// fails looks for the error, and for nothing beside it (R4).
func fails(t *testing.T, what string, got api.Num, e, want api.Errno) {
	t.Helper()
	if e != want || got != (api.Num{}) {
		t.Errorf("%s: %x, %v, not %v", what, got, e, want)
	}
}

// 2.1: the two fields.
func TestModulus(t *testing.T) {
	if got := field.Base().Modulus(); bigNum(got).Cmp(bigP) != 0 {
		t.Errorf("Base: %x", got)
	}
	if got := field.Scalars().Modulus(); bigNum(got).Cmp(bigQ) != 0 {
		t.Errorf("Scalars: %x", got)
	}
}

// 2.1: the numbers below the modulus, and no other.
func TestCheck(t *testing.T) {
	for name, f := range fields {
		for _, a := range members(f) {
			if e := f.Check(a); e != api.OK {
				t.Errorf("%s: Check(%x): %v", name, a, e)
			}
		}
		for _, a := range strangers(f) {
			if e := f.Check(a); e != api.ErrRange {
				t.Errorf("%s: Check(%x): %v", name, a, e)
			}
		}
	}
	if e := field.Scalars().Check(lessOne(field.Base().Modulus())); e != api.ErrRange {
		t.Errorf("P - 1 is no scalar: %v", e)
	}
}

// 2.1: sums, differences, products and negatives.
func TestSums(t *testing.T) {
	for name, f := range fields {
		m := bigNum(f.Modulus())
		mod := func(a *big.Int) *big.Int { return a.Mod(a, m) }
		for _, a := range members(f) {
			neg, e := f.Neg(a)
			answers(t, name+" Neg", neg, e, mod(new(big.Int).Neg(bigNum(a))))
			for _, b := range members(f) {
				sum, e := f.Add(a, b)
				answers(t, name+" Add", sum, e, mod(new(big.Int).Add(bigNum(a), bigNum(b))))
				rest, e := f.Sub(a, b)
				answers(t, name+" Sub", rest, e, mod(new(big.Int).Sub(bigNum(a), bigNum(b))))
				product, e := f.Mul(a, b)
				answers(t, name+" Mul", product, e, mod(new(big.Int).Mul(bigNum(a), bigNum(b))))
			}
		}
	}
}

// 2.1: powers to any number, also to those that are none of the field; to the 0: 1.
func TestPow(t *testing.T) {
	for name, f := range fields {
		m := f.Modulus()
		powers := append(strangers(f), members(f)...)
		for _, a := range members(f) {
			for _, p := range powers {
				got, e := f.Pow(a, p)
				answers(t, name+" Pow", got, e, new(big.Int).Exp(bigNum(a), bigNum(p), bigNum(m)))
			}
		}
		got, e := f.Pow(api.Num{}, api.Num{})
		answers(t, name+" Pow(0, 0)", got, e, big.NewInt(1))
		got, e = f.Pow(api.Num{}, most)
		answers(t, name+" Pow(0, R - 1)", got, e, big.NewInt(0))
	}
}

// 2.1: remainders of numbers up to 2^512 - 1, those around multiples of the modulus among them.
func TestReduce(t *testing.T) {
	source := rand.New(rand.NewSource(4))
	for name, f := range fields {
		m := f.Modulus()
		wides := []api.Wide{
			{}, {1}, {4: 1}, {4: ones}, {7: 1}, {7: ones}, {ones, ones, ones, ones},
			{ones, ones, ones, ones, 1}, {ones, ones, ones, ones, ones, ones, ones, ones},
			{ones, ones, ones, ones, 0, 0, 0, ones}, {0, 0, 0, 0, ones, ones, ones, ones},
			limb.Mul(most, m), limb.Mul(m, m), limb.Mul(m, api.Num{2}),
			limb.Mul(most, most), limb.Mul(lessOne(m), lessOne(m)),
		}
		for _, a := range append(members(f), strangers(f)...) {
			wides = append(wides, api.Wide{a[0], a[1], a[2], a[3]}, limb.Mul(a, m))
		}
		for range 500 {
			var w api.Wide
			for i := range w {
				// Limbs of 0 and of ones alone are where carries go far.
				w[i] = []uint64{0, ones, source.Uint64(), source.Uint64()}[source.Intn(4)]
			}
			wides = append(wides, w)
		}
		for _, w := range wides {
			got := f.Reduce(w)
			answers(t, name+" Reduce", got, api.OK, new(big.Int).Mod(bigOf(w[:]...), bigNum(m)))
		}
	}
	if got := field.Base().Reduce(api.Wide{4: 1}); got != (api.Num{0x1000003D1}) {
		t.Errorf("2^256 mod P: %x", got)
	}
}

// 2.2: inverses of all but 0.
func TestInv(t *testing.T) {
	for name, f := range fields {
		for _, a := range members(f)[1:] {
			got, e := f.Inv(a)
			answers(t, name+" Inv", got, e, new(big.Int).ModInverse(bigNum(a), bigNum(f.Modulus())))
		}
		got, e := f.Inv(api.Num{})
		fails(t, name+" Inv(0)", got, e, api.ErrZero)
	}
	half, e := field.Base().Inv(api.Num{2})
	answers(t, "Inv(2)", half, e, new(big.Int).Rsh(new(big.Int).Add(bigP, big.NewInt(1)), 1))
}

// 2.2: even roots of squares, and none of others.
func TestSqrt(t *testing.T) {
	f := field.Base()
	for _, a := range members(f) {
		got, e := f.Sqrt(a)
		if big.Jacobi(bigNum(a), bigP) < 0 {
			fails(t, "Sqrt", got, e, api.ErrRoot)
			continue
		}
		want := new(big.Int).ModSqrt(bigNum(a), bigP)
		if want.Bit(0) == 1 {
			want.Sub(bigP, want)
		}
		answers(t, "Sqrt", got, e, want)
	}
	for _, a := range members(f) {
		square, _ := f.Mul(a, a)
		if got, e := f.Sqrt(square); e != api.OK || got[0]&1 != 0 {
			t.Errorf("Sqrt(%x): %x, %v", square, got, e)
		}
	}
}

// 2.2: the document's examples.
func TestSqrtExamples(t *testing.T) {
	f := field.Base()
	got, e := f.Sqrt(api.Num{4})
	answers(t, "Sqrt(4)", got, e, big.NewInt(2))
	got, e = f.Sqrt(api.Num{})
	answers(t, "Sqrt(0)", got, e, big.NewInt(0))
	got, e = f.Sqrt(lessOne(f.Modulus()))
	fails(t, "Sqrt(P - 1)", got, e, api.ErrRoot)
	neg, e := field.Scalars().Neg(api.Num{1})
	answers(t, "Neg(1)", neg, e, new(big.Int).Sub(bigQ, big.NewInt(1)))
}

// 2.2: scalars have no roots here; a number that is no scalar is told first.
func TestSqrtOfScalars(t *testing.T) {
	f := field.Scalars()
	for _, a := range members(f) {
		got, e := f.Sqrt(a)
		fails(t, "Sqrt", got, e, api.ErrState)
	}
	for _, a := range strangers(f) {
		got, e := f.Sqrt(a)
		fails(t, "Sqrt", got, e, api.ErrRange)
	}
}

// 2.1, 2.2: a number that is not below the modulus is ErrRange, whichever it is.
func TestRange(t *testing.T) {
	for name, f := range fields {
		joins := map[string]func(a, b api.Num) (api.Num, api.Errno){"Add": f.Add, "Sub": f.Sub, "Mul": f.Mul}
		singles := map[string]func(a api.Num) (api.Num, api.Errno){"Neg": f.Neg, "Inv": f.Inv, "Sqrt": f.Sqrt}
		for _, a := range strangers(f) {
			for op, join := range joins {
				for _, pair := range [][2]api.Num{{a, {1}}, {{1}, a}, {a, a}} {
					got, e := join(pair[0], pair[1])
					fails(t, name+" "+op, got, e, api.ErrRange)
				}
			}
			for op, single := range singles {
				got, e := single(a)
				fails(t, name+" "+op, got, e, api.ErrRange)
			}
			for _, p := range []api.Num{{}, {1}, most} {
				got, e := f.Pow(a, p)
				fails(t, name+" Pow", got, e, api.ErrRange)
			}
			if s, e := f.Encode(a); s != "" || e != api.ErrRange {
				t.Errorf("%s Encode(%x): %x, %v", name, a, s, e)
			}
		}
	}
}

// 2.3: bytes, and back.
func TestEncode(t *testing.T) {
	for name, f := range fields {
		for _, a := range members(f) {
			s, e := f.Encode(a)
			if s != limb.Bytes(a) || e != api.OK {
				t.Fatalf("%s Encode(%x): %x, %v", name, a, s, e)
			}
			got, e := f.Decode(s)
			answers(t, name+" Decode", got, e, bigNum(a))
		}
	}
}

// 2.3: bytes that are no number of the field.
func TestDecodeRefuses(t *testing.T) {
	for name, f := range fields {
		for _, a := range strangers(f) {
			got, e := f.Decode(limb.Bytes(a))
			fails(t, name+" Decode", got, e, api.ErrRange)
		}
		for _, n := range []int{0, 1, 31, 33, 64} {
			for _, fill := range []string{"\x00", "\xff"} {
				got, e := f.Decode(strings.Repeat(fill, n))
				fails(t, name+" Decode", got, e, api.ErrForm)
			}
		}
	}
}

// 2.1 to 2.3: a nil field answers ErrState ahead of all, and zeros.
func TestNilField(t *testing.T) {
	var f *field.Field
	for _, a := range []api.Num{{}, {1}, most} {
		for _, join := range []func(a, b api.Num) (api.Num, api.Errno){f.Add, f.Sub, f.Mul, f.Pow} {
			got, e := join(a, a)
			fails(t, "nil, two numbers", got, e, api.ErrState)
		}
		for _, single := range []func(a api.Num) (api.Num, api.Errno){f.Neg, f.Inv, f.Sqrt} {
			got, e := single(a)
			fails(t, "nil, one number", got, e, api.ErrState)
		}
		if e := f.Check(a); e != api.ErrState {
			t.Errorf("nil Check: %v", e)
		}
		if s, e := f.Encode(a); s != "" || e != api.ErrState {
			t.Errorf("nil Encode: %x, %v", s, e)
		}
	}
	for _, s := range []string{"", limb.Bytes(api.Num{1}), limb.Bytes(most)} {
		got, e := f.Decode(s)
		fails(t, "nil Decode", got, e, api.ErrState)
	}
	if f.Modulus() != (api.Num{}) || f.Reduce(api.Wide{5, 4: 1}) != (api.Num{}) {
		t.Error("nil Modulus, Reduce")
	}
}

// P1: a field that neither Base nor Scalars made has no numbers, and does not panic.
func TestEmptyField(t *testing.T) {
	f := new(field.Field)
	f.Reduce(api.Wide{ones, ones, ones, ones, ones, ones, ones, ones})
	for _, single := range []func(a api.Num) (api.Num, api.Errno){f.Neg, f.Inv, f.Sqrt} {
		got, e := single(api.Num{})
		fails(t, "empty", got, e, api.ErrRange)
	}
	got, e := f.Pow(api.Num{}, most)
	fails(t, "empty Pow", got, e, api.ErrRange)
}
