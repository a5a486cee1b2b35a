package curve_test

import (
	"math/big"
	"math/rand"
	"slices"
	"strings"
	"testing"

	"wardmote/api"
	"wardmote/curve"
	"wardmote/field"
	"wardmote/limb"
)

const ones = ^uint64(0)

var (
	most     = api.Num{ones, ones, ones, ones}
	infinity = api.Point{Inf: true}
	p        = field.Base().Modulus()
	q        = field.Scalars().Modulus()

	points    = makePoints()
	strangers = makeStrangers()
	numbers   = makeNumbers()
)

func lessOne(a api.Num) api.Num {
	out, _ := limb.Sub(a, api.Num{1})
	return out
}

func more(a, b api.Num) api.Num {
	out, _ := limb.Add(a, b)
	return out
}

// makePoints makes the one at infinity, G, neighbours, negatives, one of the smallest X, and drawn ones, always the same.
func makePoints() []api.Point {
	g := number(big.NewInt(1), curve.G())
	out := []api.Point{infinity, g, negative(g), withX(1, 0), withX(1, 1), withX(2, 1)}
	for _, k := range []int64{2, 3, 4, 5, -2} {
		out = append(out, number(big.NewInt(k), g))
	}
	source := rand.New(rand.NewSource(5))
	for range 5 {
		out = append(out, number(new(big.Int).Rand(source, bigOf(q)), g))
	}
	return out
}

// makeStrangers makes what is no point: beside the curve, with coordinates at P and above, infinite with coordinates.
func makeStrangers() []api.Point {
	g := curve.G()
	low, flat := withX(1, 0), withLowY()
	return []api.Point{
		{}, {X: g.X}, {Y: g.Y}, {X: g.Y, Y: g.X}, {X: api.Num{1}, Y: api.Num{1}},
		{X: more(g.X, api.Num{1}), Y: g.Y}, {X: g.X, Y: more(g.Y, api.Num{1})}, {X: g.X, Y: lessOne(g.Y)},
		{X: more(low.X, p), Y: low.Y}, {X: low.X, Y: p}, {X: p, Y: low.Y}, {X: p, Y: p},
		{X: flat.X, Y: more(flat.Y, p)}, {X: most, Y: g.Y}, {X: g.X, Y: most},
		{X: g.X, Y: g.Y, Inf: true}, {X: api.Num{1}, Inf: true}, {Y: api.Num{0, 0, 0, 1}, Inf: true},
		{X: p, Inf: true}, {Y: p, Inf: true},
	}
}

// makeNumbers makes scalars: the ends, runs of ones, single limbs, and drawn ones.
func makeNumbers() []api.Num {
	out := []api.Num{
		{}, {1}, {2}, {3}, {4}, {7}, {0xAAAAAAAAAAAAAAAA, 0x5555555555555555}, {ones}, {0, 1}, {ones, ones, ones},
		{0, 0, 0, 1 << 63}, {ones, ones, ones, 1<<63 - 1}, {2: ones - 1, 3: ones}, lessOne(lessOne(q)), lessOne(q),
	}
	source := rand.New(rand.NewSource(6))
	for range 5 {
		out = append(out, numOf(new(big.Int).Rand(source, bigOf(q))))
	}
	return out
}

func answers(t *testing.T, what string, got api.Point, e api.Errno, want api.Point) {
	t.Helper()
	if e != api.OK || got != want {
		t.Fatalf("%s: %v, %v, not %v", what, got, e, want)
	}
}

// fails looks for the error, and for nothing beside it (R4).
func fails(t *testing.T, what string, got api.Point, e, want api.Errno) {
	t.Helper()
	if e != want || got != (api.Point{}) {
		t.Errorf("%s: %v, %v, not %v", what, got, e, want)
	}
}

// The document's generator.
func TestG(t *testing.T) {
	want := api.Point{
		X: numHex("79BE667EF9DCBBAC55A06295CE870B07029BFCDB2DCE28D959F2815B16F81798"),
		Y: numHex("483ADA7726A3C4655DA4FBFC0E1108A8FD17B448A68554199C47D08FFB10D4B8"),
	}
	if curve.G() != want {
		t.Errorf("G: %v", curve.G())
	}
}

// 3.1: points, and what is none.
func TestCheck(t *testing.T) {
	for _, a := range points {
		if e := curve.Check(a); e != api.OK {
			t.Errorf("Check(%v): %v", a, e)
		}
	}
	if e := curve.Check(withLowY()); e != api.OK {
		t.Errorf("Check of the point with a low Y: %v", e)
	}
	for _, a := range strangers {
		if e := curve.Check(a); e != api.ErrCurve {
			t.Errorf("Check(%v): %v", a, e)
		}
	}
}

// 3.1: sums, of all kinds of two points.
func TestAdd(t *testing.T) {
	for _, a := range points {
		for _, b := range points {
			got, e := curve.Add(a, b)
			answers(t, "Add", got, e, sum(a, b))
		}
		got, e := curve.Add(a, infinity)
		answers(t, "Add, infinity", got, e, a)
		got, e = curve.Add(a, negative(a))
		answers(t, "Add, negative", got, e, infinity)
	}
}

// 3.1: negatives.
func TestNeg(t *testing.T) {
	for _, a := range points {
		got, e := curve.Neg(a)
		answers(t, "Neg", got, e, negative(a))
	}
	got, e := curve.Neg(infinity)
	answers(t, "Neg", got, e, infinity)
}

// 3.1: numbers times points.
func TestMul(t *testing.T) {
	for _, a := range points {
		for _, k := range numbers {
			got, e := curve.Mul(k, a)
			answers(t, "Mul", got, e, number(bigOf(k), a))
		}
		got, e := curve.Mul(api.Num{}, a)
		answers(t, "Mul by 0", got, e, infinity)
		got, e = curve.Mul(api.Num{1}, a)
		answers(t, "Mul by 1", got, e, a)
		got, e = curve.Mul(lessOne(q), a)
		answers(t, "Mul by Q - 1", got, e, negative(a))
	}
}

// 3.1: small numbers, one by one.
func TestMulCounts(t *testing.T) {
	g := curve.G()
	want := infinity
	for k := range uint64(300) {
		got, e := curve.Mul(api.Num{k}, g)
		answers(t, "Mul", got, e, want)
		want = sum(want, g)
	}
}

// 3.1: what others tell of G's multiples.
func TestMulKnown(t *testing.T) {
	for _, known := range []struct{ k, x, y string }{
		{
			"2", "C6047F9441ED7D6D3045406E95C07CD85C778E4B8CEF3CA7ABAC09B95C709EE5",
			"1AE168FEA63DC339A3C58419466CEAEEF7F632653266D0E1236431A950CFE52A",
		},
		{
			"3", "F9308A019258C31049344F85F89D5229B531C845836F99B08601F113BCE036F9",
			"388F7B0F632DE8140FE337E62A37F3566500A99934C2231B6CB9FD7584B8E672",
		},
		{
			"FFFFFFFFFFFFFFFFFFFFFFFFFFFFFFFEBAAEDCE6AF48A03BBFD25E8CD036413E",
			"F9308A019258C31049344F85F89D5229B531C845836F99B08601F113BCE036F9",
			"C77084F09CD217EBF01CC819D5C80CA99AFF5666CB3DDCE4934602897B4715BD",
		},
	} {
		got, e := curve.Mul(numHex(known.k), curve.G())
		answers(t, "Mul", got, e, api.Point{X: numHex(known.x), Y: numHex(known.y)})
	}
}

// 3.1: sums of no pair, of one, of 64, and of all between that a list happens to have.
func TestSum(t *testing.T) {
	var k []api.Num
	var a []api.Point
	want := infinity
	for _, none := range [][]api.Num{nil, {}} {
		got, e := curve.Sum(none, nil)
		answers(t, "Sum of none", got, e, infinity)
	}
	for i := range 64 {
		k = append(k, numbers[i*7%len(numbers)])
		a = append(a, points[i*5%len(points)])
		want = sum(want, number(bigOf(k[i]), a[i]))
		got, e := curve.Sum(k, a)
		answers(t, "Sum", got, e, want)
	}
}

// 3.1: pairs whose products meet on the way: the same ones, and negatives.
func TestSumMeets(t *testing.T) {
	g := curve.G()
	for _, k := range numbers {
		minus, _ := field.Scalars().Neg(k)
		got, e := curve.Sum([]api.Num{k, k}, []api.Point{g, negative(g)})
		answers(t, "Sum, negative point", got, e, infinity)
		got, e = curve.Sum([]api.Num{k, minus}, []api.Point{g, g})
		answers(t, "Sum, negative number", got, e, infinity)
		got, e = curve.Sum([]api.Num{k, k, k}, []api.Point{g, g, g})
		answers(t, "Sum, the same", got, e, number(new(big.Int).Mul(bigOf(k), big.NewInt(3)), g))
	}
}

// 3.1: what is no point is ErrCurve, wherever it stands.
func TestStrangersAreRefused(t *testing.T) {
	g := curve.G()
	for _, a := range strangers {
		for _, b := range []api.Point{infinity, g, a} {
			got, e := curve.Add(a, b)
			fails(t, "Add, first", got, e, api.ErrCurve)
			got, e = curve.Add(b, a)
			fails(t, "Add, second", got, e, api.ErrCurve)
		}
		got, e := curve.Neg(a)
		fails(t, "Neg", got, e, api.ErrCurve)
		for _, k := range []api.Num{{}, {1}, lessOne(q)} {
			got, e = curve.Mul(k, a)
			fails(t, "Mul", got, e, api.ErrCurve)
			got, e = curve.Sum([]api.Num{{1}, k}, []api.Point{g, a})
			fails(t, "Sum", got, e, api.ErrCurve)
		}
		if s, e := curve.Encode(a); s != "" || e != api.ErrCurve {
			t.Errorf("Encode(%v): %x, %v", a, s, e)
		}
	}
}

// 3.1: numbers from Q on are ErrRange, ahead of the point.
func TestGreatNumbersAreRefused(t *testing.T) {
	g := curve.G()
	for _, k := range []api.Num{q, more(q, api.Num{1}), lessOne(p), p, lessOne(most), most} {
		for _, a := range []api.Point{g, infinity, {}, {X: g.X}} {
			got, e := curve.Mul(k, a)
			fails(t, "Mul", got, e, api.ErrRange)
			got, e = curve.Sum([]api.Num{{1}, k}, []api.Point{g, a})
			fails(t, "Sum", got, e, api.ErrRange)
		}
	}
}

// 3.1: the first pair that is wrong, and of it the number, is told; how many there are comes ahead.
func TestSumTellsTheFirst(t *testing.T) {
	g, wrong := curve.G(), api.Point{}
	for _, c := range []struct {
		k    []api.Num
		p    []api.Point
		want api.Errno
	}{
		{[]api.Num{{1}, q}, []api.Point{wrong, g}, api.ErrCurve},
		{[]api.Num{q, {1}}, []api.Point{g, wrong}, api.ErrRange},
		{[]api.Num{{1}, q}, []api.Point{g, wrong}, api.ErrRange},
		{[]api.Num{{1}, {1}, q}, []api.Point{g, wrong, g}, api.ErrCurve},
		{[]api.Num{{1}}, nil, api.ErrArg},
		{nil, []api.Point{g}, api.ErrArg},
		{[]api.Num{{1}, {2}}, []api.Point{g}, api.ErrArg},
		{[]api.Num{{1}}, []api.Point{g, g}, api.ErrArg},
		{[]api.Num{q}, []api.Point{wrong, wrong}, api.ErrArg},
		{slices.Repeat([]api.Num{{1}}, 65), slices.Repeat([]api.Point{g}, 65), api.ErrArg},
		{slices.Repeat([]api.Num{q}, 65), slices.Repeat([]api.Point{wrong}, 65), api.ErrArg},
		{slices.Repeat([]api.Num{{1}}, 1000), slices.Repeat([]api.Point{g}, 1000), api.ErrArg},
		{slices.Repeat([]api.Num{{1}}, 64), append(slices.Repeat([]api.Point{g}, 63), wrong), api.ErrCurve},
	} {
		got, e := curve.Sum(c.k, c.p)
		fails(t, "Sum", got, e, c.want)
	}
}

// R3: Sum leaves its lists as they were, spare room too.
func TestSumLeavesItsLists(t *testing.T) {
	g := curve.G()
	k, a := []api.Num{{5}, {6}, {7}, {8}}, []api.Point{g, negative(g), g, infinity}
	keptK, keptA := slices.Clone(k), slices.Clone(a)
	got, e := curve.Sum(k[:2], a[:2])
	answers(t, "Sum", got, e, negative(g))
	if !slices.Equal(k, keptK) || !slices.Equal(a, keptA) {
		t.Errorf("Sum changed its lists: %v, %v", k, a)
	}
}

// 3.2: a point's bytes.
func TestEncode(t *testing.T) {
	for _, a := range points {
		want := strings.Repeat("\x00", 33)
		if !a.Inf {
			want = string(rune(2+a.Y[0]&1)) + string(bigOf(a.X).FillBytes(make([]byte, 32)))
		}
		if s, e := curve.Encode(a); s != want || e != api.OK {
			t.Errorf("Encode(%v): %x, %v, not %x", a, s, e, want)
		}
	}
}

// 3.2: the point of bytes: of each X both points, or none.
func TestDecode(t *testing.T) {
	got, e := curve.Decode(strings.Repeat("\x00", 33))
	answers(t, "Decode", got, e, infinity)
	source := rand.New(rand.NewSource(7))
	xs := []api.Num{{}, lessOne(p), lessOne(lessOne(p))}
	for i := range uint64(20) {
		drawn := numOf(new(big.Int).Rand(source, bigOf(p)))
		xs = append(xs, api.Num{i}, drawn)
	}
	none := 0
	for _, x := range xs {
		y := rootOfX(bigOf(x))
		for first := range uint64(2) {
			got, e := curve.Decode(string(rune(2+first)) + limb.Bytes(x))
			if y == nil {
				none++
				fails(t, "Decode", got, e, api.ErrCurve)
				continue
			}
			answers(t, "Decode", got, e, api.Point{X: x, Y: numOf(ofParity(y, first))})
		}
	}
	if none == 0 || none == 2*len(xs) {
		t.Errorf("the test has not both kinds of X: %d", none)
	}
}

// 3.2: bytes of another form, in whatever else is wrong.
func TestDecodeForm(t *testing.T) {
	g, _ := curve.Encode(curve.G())
	for first := range 256 {
		for _, rest := range []string{g[1:], strings.Repeat("\xff", 32), limb.Bytes(api.Num{5})} {
			if first == 2 || first == 3 {
				continue
			}
			got, e := curve.Decode(string([]byte{byte(first)}) + rest)
			fails(t, "Decode, first byte", got, e, api.ErrForm)
		}
	}
	for place := 1; place < 33; place++ {
		text := make([]byte, 33)
		text[place] = 1
		got, e := curve.Decode(string(text))
		fails(t, "Decode, 0 and another", got, e, api.ErrForm)
	}
	for first := range 256 {
		if first == 0 || first == 2 || first == 3 {
			continue
		}
		got, e := curve.Decode(string([]byte{byte(first)}) + strings.Repeat("\x00", 32))
		fails(t, "Decode, first byte and 0", got, e, api.ErrForm)
	}
	for _, n := range []int{0, 1, 2, 31, 32, 34, 65, 66} {
		for _, text := range []string{strings.Repeat("\x00", n), strings.Repeat(g, 2)[:n], strings.Repeat("\x03", n)} {
			got, e := curve.Decode(text)
			fails(t, "Decode, length", got, e, api.ErrForm)
		}
	}
}

// 3.2: an X from P on, also if it is, mod P, one of a point.
func TestDecodeRange(t *testing.T) {
	for _, x := range []api.Num{p, more(p, api.Num{1}), more(p, api.Num{2}), more(p, api.Num{5}), most} {
		for _, first := range []string{"\x02", "\x03"} {
			got, e := curve.Decode(first + limb.Bytes(x))
			fails(t, "Decode", got, e, api.ErrRange)
		}
	}
}

// The document's examples.
func TestExamples(t *testing.T) {
	g := curve.G()
	minus, e := curve.Neg(g)
	answers(t, "Neg(G)", minus, e, negative(g))
	got, e := curve.Mul(api.Num{1}, g)
	answers(t, "Mul(1, G)", got, e, g)
	got, e = curve.Mul(lessOne(q), g)
	answers(t, "Mul(Q - 1, G)", got, e, minus)
	got, e = curve.Add(g, minus)
	answers(t, "Add(G, Neg(G))", got, e, infinity)
	if s, e := curve.Encode(g); e != api.OK || !strings.HasPrefix(s, "\x02\x79\xbe") {
		t.Errorf("Encode(G): %x, %v", s, e)
	}
}
