package field_test

import (
	"testing"

	"wardmote/api"
	"wardmote/field"
)

// sure takes what is told of numbers of the field, of which none may be an error.
func sure(t *testing.T) func(a api.Num, e api.Errno) api.Num {
	return func(a api.Num, e api.Errno) api.Num {
		t.Helper()
		if e != api.OK {
			t.Fatal(e)
		}
		return a
	}
}

// 2.4: whichever is first, however grouped, and one by the other.
func TestSumsAndProductsKeepTheRules(t *testing.T) {
	is := sure(t)
	for name, f := range fields {
		numbers := members(f)
		for i, a := range numbers {
			for j, b := range numbers {
				c := numbers[(5*i+3*j)%len(numbers)]
				for _, op := range []func(a, b api.Num) (api.Num, api.Errno){f.Add, f.Mul} {
					if is(op(a, b)) != is(op(b, a)) {
						t.Fatalf("%s: %x, %x: not the same whichever is first", name, a, b)
					}
					if is(op(is(op(a, b)), c)) != is(op(a, is(op(b, c)))) {
						t.Fatalf("%s: %x, %x, %x: not the same however grouped", name, a, b, c)
					}
				}
				if is(f.Mul(a, is(f.Add(b, c)))) != is(f.Add(is(f.Mul(a, b)), is(f.Mul(a, c)))) {
					t.Fatalf("%s: %x (%x + %x)", name, a, b, c)
				}
			}
		}
	}
}

// 2.4: 0, 1, negatives and inverses.
func TestNegativesAndInversesKeepTheRules(t *testing.T) {
	is := sure(t)
	zero, one := api.Num{}, api.Num{1}
	for name, f := range fields {
		for _, a := range members(f) {
			if is(f.Add(a, zero)) != a || is(f.Mul(a, one)) != a || is(f.Mul(a, zero)) != zero {
				t.Fatalf("%s: %x with 0 and 1", name, a)
			}
			if is(f.Add(a, is(f.Neg(a)))) != zero || is(f.Sub(a, a)) != zero {
				t.Fatalf("%s: %x and its negative", name, a)
			}
			if a != zero && is(f.Mul(a, is(f.Inv(a)))) != one {
				t.Fatalf("%s: %x and its inverse", name, a)
			}
		}
	}
}

// 2.5: a root's square, and just one of a number and its negative has a root.
func TestRootsKeepTheRules(t *testing.T) {
	f, is := field.Base(), sure(t)
	for _, a := range members(f)[1:] {
		roots := 0
		for _, b := range []api.Num{a, is(f.Neg(a))} {
			root, e := f.Sqrt(b)
			if e == api.ErrRoot {
				continue
			}
			roots++
			if e != api.OK || is(f.Mul(root, root)) != b {
				t.Fatalf("Sqrt(%x): %x, %v", b, root, e)
			}
		}
		if roots != 1 {
			t.Fatalf("%x and its negative: %d of them have roots", a, roots)
		}
	}
}

// R6: a field is not changed by its calls, and each call of Base tells the same field.
func TestFieldTellsTheSame(t *testing.T) {
	f, is := field.Base(), sure(t)
	first := is(f.Inv(api.Num{7}))
	f.Add(f.Modulus(), api.Num{})
	f.Decode("")
	if is(f.Inv(api.Num{7})) != first || is(field.Base().Inv(api.Num{7})) != first {
		t.Error("Inv(7) is told otherwise")
	}
}
