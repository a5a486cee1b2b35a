package curve_test

import (
	"strings"
	"testing"

	"wardmote/api"
	"wardmote/curve"
	"wardmote/field"
	"wardmote/limb"
)

// sure takes what is told of points, of which none may be an error.
func sure(t *testing.T) func(a api.Point, e api.Errno) api.Point {
	return func(a api.Point, e api.Errno) api.Point {
		t.Helper()
		if e != api.OK {
			t.Fatal(e)
		}
		return a
	}
}

// 3.3: whichever is first, and however grouped.
func TestSumsKeepTheRules(t *testing.T) {
	is := sure(t)
	all := points
	for i, a := range all {
		for j, b := range all {
			if is(curve.Add(a, b)) != is(curve.Add(b, a)) {
				t.Fatalf("%v, %v: not the same whichever is first", a, b)
			}
			for _, c := range []api.Point{a, negative(b), all[(3*i+5*j)%len(all)]} {
				if is(curve.Add(is(curve.Add(a, b)), c)) != is(curve.Add(a, is(curve.Add(b, c)))) {
					t.Fatalf("%v, %v, %v: not the same however grouped", a, b, c)
				}
			}
		}
	}
}

// 3.3: nor does it matter in which order pairs are summed.
func TestOrderOfPairs(t *testing.T) {
	is := sure(t)
	k, a := numbers[5:10], points[1:6]
	want := is(curve.Sum(k, a))
	for range k {
		k, a = append(k[1:len(k):len(k)], k[0]), append(a[1:len(a):len(a)], a[0])
		if is(curve.Sum(k, a)) != want {
			t.Fatalf("%v, %v: another sum", k, a)
		}
	}
}

// 3.4: sums and products of numbers.
func TestProductsKeepTheRules(t *testing.T) {
	is := sure(t)
	scalars := field.Scalars()
	for i, a := range numbers {
		for j, b := range numbers {
			point := points[(i+3*j)%len(points)]
			both, _ := scalars.Add(a, b)
			if is(curve.Mul(both, point)) != is(curve.Add(is(curve.Mul(a, point)), is(curve.Mul(b, point)))) {
				t.Fatalf("(%v + %v) %v", a, b, point)
			}
			product, _ := scalars.Mul(a, b)
			if is(curve.Mul(product, point)) != is(curve.Mul(a, is(curve.Mul(b, point)))) {
				t.Fatalf("%v %v %v", a, b, point)
			}
		}
	}
}

// 3.5: what was encoded is decoded.
func TestEncodedIsDecoded(t *testing.T) {
	for _, a := range points {
		s, e := curve.Encode(a)
		if e != api.OK {
			t.Fatal(e)
		}
		got, e := curve.Decode(s)
		answers(t, "Decode", got, e, a)
	}
}

// 3.5: what is decoded is encoded so.
func TestDecodedIsEncoded(t *testing.T) {
	texts := []string{strings.Repeat("\x00", 33)}
	for x := range uint64(100) {
		texts = append(texts, "\x02"+limb.Bytes(api.Num{x, 0, x}), "\x03"+limb.Bytes(api.Num{x, 0, x}))
	}
	decoded := 0
	for _, text := range texts {
		a, e := curve.Decode(text)
		if e != api.OK {
			continue
		}
		decoded++
		if e := curve.Check(a); e != api.OK {
			t.Errorf("Decode(%x) is no point: %v", text, e)
		}
		if s, e := curve.Encode(a); s != text || e != api.OK {
			t.Errorf("Decode(%x) is encoded %x, %v", text, s, e)
		}
	}
	if decoded < 50 {
		t.Errorf("only %d of %d are points", decoded, len(texts))
	}
}
