package limb_test

import (
	"math"
	"math/big"
	"math/rand"
	"strings"
	"testing"

	"wardmote/api"
	"wardmote/limb"
)

const ones = ^uint64(0)

var most = api.Num{ones, ones, ones, ones}

// edgeNumbers are those at which carries and borrows begin, go through all limbs, or end.
func edgeNumbers() []api.Num {
	return []api.Num{
		{}, {1}, {2}, {3}, {97}, {1 << 63}, {ones - 1}, {ones},
		{0, 1}, {1, 1}, {ones, 1}, {ones, ones}, {0, ones},
		{0, 0, 1}, {1, 0, 1}, {ones, ones, ones}, {0, 0, ones},
		{0, 0, 0, 1}, {1, 0, 0, 1}, {0, 0, 0, 1 << 63}, {1, 0, 0, 1 << 63},
		{ones, ones, ones, 1<<63 - 1}, {0, 0, 0, ones}, {0, ones, ones, ones},
		{0xFFFFFFFEFFFFFC2F, ones, ones, ones},
		{0xBFD25E8CD0364141, 0xBAAEDCE6AF48A03B, ones - 1, ones},
		{ones - 1, ones, ones, ones}, {ones - 2, ones, ones, ones}, most,
	}
}

// someNumbers are the edges and as many drawn ones, always the same.
func someNumbers() []api.Num {
	source := rand.New(rand.NewSource(1))
	out := edgeNumbers()
	for range len(out) {
		out = append(out, api.Num{source.Uint64(), source.Uint64(), source.Uint64(), source.Uint64()})
	}
	return out
}

func bigOf(limbs ...uint64) *big.Int {
	out := new(big.Int)
	for i := len(limbs) - 1; i >= 0; i-- {
		out.Lsh(out, 64)
		out.Or(out, new(big.Int).SetUint64(limbs[i]))
	}
	return out
}

func bigNum(a api.Num) *big.Int { return bigOf(a[:]...) }

// r is 2^256.
func r() *big.Int { return new(big.Int).Lsh(big.NewInt(1), 256) }

// modR is a number mod 2^256, of those below 0 too.
func modR(a *big.Int) *big.Int { return new(big.Int).Mod(a, r()) }

func same(t *testing.T, what string, got api.Num, want *big.Int) {
	t.Helper()
	if bigNum(got).Cmp(want) != 0 {
		t.Fatalf("%s: %x, not %x", what, bigNum(got), want)
	}
}

func oneIf(b bool) uint64 {
	if b {
		return 1
	}
	return 0
}

// 1.1: sums, and their carries.
func TestAdd(t *testing.T) {
	for _, a := range someNumbers() {
		for _, b := range someNumbers() {
			sum, carry := limb.Add(a, b)
			want := new(big.Int).Add(bigNum(a), bigNum(b))
			same(t, "Add", sum, modR(want))
			if carry != oneIf(want.Cmp(r()) >= 0) {
				t.Fatalf("Add(%x, %x): carry %d", a, b, carry)
			}
		}
	}
}

// 1.1: a carry that begins at the lowest limb goes through all.
func TestAddCarriesAlong(t *testing.T) {
	if s, c := limb.Add(most, api.Num{1}); s != (api.Num{}) || c != 1 {
		t.Errorf("Add(R - 1, 1): %x, %d", s, c)
	}
	if s, c := limb.Add(api.Num{ones, ones, ones}, api.Num{1}); s != (api.Num{0, 0, 0, 1}) || c != 0 {
		t.Errorf("Add(2^192 - 1, 1): %x, %d", s, c)
	}
	if s, c := limb.Add(most, most); s != (api.Num{ones - 1, ones, ones, ones}) || c != 1 {
		t.Errorf("Add(R - 1, R - 1): %x, %d", s, c)
	}
}

// 1.1: differences, and their borrows.
func TestSub(t *testing.T) {
	for _, a := range someNumbers() {
		for _, b := range someNumbers() {
			rest, borrow := limb.Sub(a, b)
			want := new(big.Int).Sub(bigNum(a), bigNum(b))
			same(t, "Sub", rest, modR(want))
			if borrow != oneIf(want.Sign() < 0) {
				t.Fatalf("Sub(%x, %x): borrow %d", a, b, borrow)
			}
		}
	}
}

// 1.1: a borrow that begins at the lowest limb goes through all.
func TestSubBorrowsAlong(t *testing.T) {
	if d, b := limb.Sub(api.Num{}, api.Num{1}); d != most || b != 1 {
		t.Errorf("Sub(0, 1): %x, %d", d, b)
	}
	if d, b := limb.Sub(api.Num{0, 0, 0, 1}, api.Num{1}); d != (api.Num{ones, ones, ones}) || b != 0 {
		t.Errorf("Sub(2^192, 1): %x, %d", d, b)
	}
	if d, b := limb.Sub(api.Num{}, most); d != (api.Num{1}) || b != 1 {
		t.Errorf("Sub(0, R - 1): %x, %d", d, b)
	}
}

// 1.1: products.
func TestMul(t *testing.T) {
	for _, a := range someNumbers() {
		for _, b := range someNumbers() {
			w := limb.Mul(a, b)
			if bigOf(w[:]...).Cmp(new(big.Int).Mul(bigNum(a), bigNum(b))) != 0 {
				t.Fatalf("Mul(%x, %x): %x", a, b, w)
			}
		}
	}
	if w := limb.Mul(api.Num{0, 1}, api.Num{0, 1}); w != (api.Wide{2: 1}) {
		t.Errorf("Mul(2^64, 2^64): %x", w)
	}
}

// 1.1: numbers are compared from the highest limb on.
func TestCmp(t *testing.T) {
	for _, a := range someNumbers() {
		for _, b := range someNumbers() {
			if got := limb.Cmp(a, b); got != bigNum(a).Cmp(bigNum(b)) {
				t.Fatalf("Cmp(%x, %x): %d", a, b, got)
			}
		}
	}
}

// 1.1: only the lowest bit says which.
func TestSelect(t *testing.T) {
	a, b := api.Num{1, 2, 3, 4}, api.Num{5, 6, 7, 8}
	for _, bit := range []uint64{1, 3, 5, 1<<63 + 1, ones} {
		if got := limb.Select(bit, a, b); got != a {
			t.Errorf("Select(%x): %x", bit, got)
		}
	}
	for _, bit := range []uint64{0, 2, 4, 1 << 63, ones - 1} {
		if got := limb.Select(bit, a, b); got != b {
			t.Errorf("Select(%x): %x", bit, got)
		}
	}
}

// 1.1: bits from 0 to 255, and 0 beyond.
func TestBit(t *testing.T) {
	for _, a := range someNumbers() {
		for i := range 256 {
			if got := limb.Bit(a, i); got != uint64(bigNum(a).Bit(i)) {
				t.Fatalf("Bit(%x, %d): %d", a, i, got)
			}
		}
	}
	for _, i := range []int{-1, -64, -256, 256, 257, 320, 512, math.MinInt, math.MaxInt} {
		if got := limb.Bit(most, i); got != 0 {
			t.Errorf("Bit(R - 1, %d): %d", i, got)
		}
	}
}

// 1.2: remainders by any number but 0.
func TestMod(t *testing.T) {
	source := rand.New(rand.NewSource(2))
	wides := []api.Wide{
		{}, {1}, {ones}, {2: 1}, {3: 1 << 63}, {4: 1}, {7: 1}, {7: 1 << 63},
		{ones, ones, ones, ones}, {ones, ones, ones, ones, ones, ones, ones, ones},
		limb.Mul(most, most), limb.Mul(api.Num{3: 1 << 63}, most),
	}
	for range 8 {
		var w api.Wide
		for i := range w {
			w[i] = source.Uint64()
		}
		wides = append(wides, w)
	}
	for _, m := range someNumbers()[1:] {
		for _, w := range wides {
			rest, e := limb.Mod(w, m)
			if e != api.OK {
				t.Fatalf("Mod(%x, %x): %v", w, m, e)
			}
			same(t, "Mod", rest, new(big.Int).Mod(bigOf(w[:]...), bigNum(m)))
		}
	}
	if rest, e := limb.Mod(api.Wide{2: 1}, api.Num{ones}); rest != (api.Num{1}) || e != api.OK {
		t.Errorf("Mod(2^128, 2^64 - 1): %x, %v", rest, e)
	}
}

// 1.2, R4: there is no remainder by 0, and nothing beside the error.
func TestModByZero(t *testing.T) {
	for _, w := range []api.Wide{{}, {5}, {7: ones}} {
		if rest, e := limb.Mod(w, api.Num{}); rest != (api.Num{}) || e != api.ErrArg {
			t.Errorf("Mod(%x, 0): %x, %v", w, rest, e)
		}
	}
}

// 1.4: bytes, the highest first, and back.
func TestBytes(t *testing.T) {
	for _, a := range someNumbers() {
		s := limb.Bytes(a)
		want := string(bigNum(a).FillBytes(make([]byte, 32)))
		if s != want {
			t.Fatalf("Bytes(%x): %x", a, s)
		}
		if b, e := limb.FromBytes(s); b != a || e != api.OK {
			t.Fatalf("FromBytes(%x): %x, %v", s, b, e)
		}
	}
}

// 1.4, R4: other than 32 bytes are no number.
func TestFromBytesOfAnotherLength(t *testing.T) {
	for n := range 70 {
		a, e := limb.FromBytes(strings.Repeat("\xff", n))
		if n == 32 {
			if a != most || e != api.OK {
				t.Errorf("FromBytes of 32 bytes: %x, %v", a, e)
			}
		} else if a != (api.Num{}) || e != api.ErrForm {
			t.Errorf("FromBytes of %d bytes: %x, %v", n, a, e)
		}
	}
}

func lowHalf(w api.Wide) api.Num { return api.Num{w[0], w[1], w[2], w[3]} }

// 1.5: what follows of sums and products.
func TestSumsAndProducts(t *testing.T) {
	numbers := someNumbers()
	for i, a := range numbers {
		for j, b := range numbers {
			c := numbers[(7*i+j)%len(numbers)]
			sum, carry := limb.Add(a, b)
			if back, borrow := limb.Sub(sum, b); back != a || borrow != carry {
				t.Fatalf("%x + %x - it: %x", a, b, back)
			}
			if turned, other := limb.Add(b, a); turned != sum || other != carry {
				t.Fatalf("Add(%x, %x) is not the other way around", a, b)
			}
			if limb.Mul(a, b) != limb.Mul(b, a) {
				t.Fatalf("Mul(%x, %x) is not the other way around", a, b)
			}
			bc, _ := limb.Add(b, c)
			parts, _ := limb.Add(lowHalf(limb.Mul(a, b)), lowHalf(limb.Mul(a, c)))
			if lowHalf(limb.Mul(a, bc)) != parts {
				t.Fatalf("%x (%x + %x) is not the sum of the products", a, b, c)
			}
		}
	}
}
