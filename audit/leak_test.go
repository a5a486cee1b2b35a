package audit_test

import (
	"math/big"
	"slices"
	"testing"

	"wardmote/api"
	"wardmote/audit"
	"wardmote/bind"
)

// told is a share that was told of one nonce.
func told(weight, challenge, z uint64) audit.Told {
	return audit.Told{Pair: pair(1, 1, 2), Factor: api.Num{9}, Weight: api.Num{weight}, Challenge: api.Num{challenge}, Z: api.Num{z}}
}

// numbers are where the four numbers of a share stand.
func numbers(t *audit.Told) []*api.Num {
	return []*api.Num{&t.Factor, &t.Weight, &t.Challenge, &t.Z}
}

// 28.2: the example of the chapter.
func TestExample(t *testing.T) {
	leaks(t, told(5, 1, 11), told(3, 1, 7), api.Num{2}, api.OK)
	leaks(t, told(1, 5, 11), told(3, 1, 7), api.Num{2}, api.OK)
}

// 28.2: what two shares give away is mod Q.
func TestLeak(t *testing.T) {
	half := scalarOf(new(big.Int).ModInverse(big.NewInt(2), bigQ))
	leaks(t, told(2, 2, 1), told(2, 1, 0), half, api.OK)
	leaks(t, told(2, 1, 1), told(2, 2, 0), times(last, half), api.OK)
	leaks(t, told(1, 1, 5), told(0, 7, 0), api.Num{5}, api.OK)
	leaks(t, told(1, 1, 0), told(0, 7, 5), times(last, api.Num{5}), api.OK)
	leaks(t, told(1, 1, 7), told(2, 1, 7), api.Num{}, api.OK)
	a, b := told(1, 1, 0), told(1, 1, 0)
	a.Weight, a.Challenge, a.Z = last, last, last // 1, and -1
	b.Weight, b.Challenge, b.Z = last, api.Num{1}, api.Num{1}
	leaks(t, a, b, last, api.OK)
}

// 28.2: two that do not tell a secret: of unlike nonces, or unlike bound, or with the same product.
func TestLeakNone(t *testing.T) {
	for i, p := range unlike() {
		for j, other := range unlike() {
			a, b := told(5, 1, 11), told(3, 1, 7)
			a.Pair, b.Pair = p, other
			if i == j {
				leaks(t, a, b, api.Num{2}, api.OK)
			} else {
				leaks(t, a, b, api.Num{}, api.ErrArg)
			}
		}
	}
	for _, c := range changed() {
		a, b := told(5, 1, 11), told(3, 1, 7)
		b.Factor = c
		want := api.ErrArg
		if slices.Contains(greats, c) {
			want = api.ErrRange
		}
		leaks(t, a, b, api.Num{}, want)
	}
	leaks(t, told(5, 1, 11), told(5, 1, 11), api.Num{}, api.ErrArg)
	leaks(t, told(5, 1, 11), told(5, 1, 7), api.Num{}, api.ErrArg)
	leaks(t, told(5, 1, 11), told(1, 5, 7), api.Num{}, api.ErrArg)
	leaks(t, told(6, 4, 11), told(3, 8, 7), api.Num{}, api.ErrArg)
	leaks(t, told(0, 4, 11), told(3, 0, 7), api.Num{}, api.ErrArg)
	// The products are alike mod Q.
	a, b := told(2, 3, 11), told(1, 1, 7)
	b.Weight, b.Challenge = times(last, api.Num{2}), times(last, api.Num{3})
	leaks(t, a, b, api.Num{}, api.ErrArg)
	half := scalarOf(new(big.Int).ModInverse(big.NewInt(2), bigQ))
	b.Weight, b.Challenge = half, api.Num{12}
	leaks(t, a, b, api.Num{}, api.ErrArg)
}

// 28.2: each of the eight numbers is a scalar; that is told ahead of all else.
func TestLeakRange(t *testing.T) {
	for at := range 8 {
		for _, n := range greats {
			a, b := told(5, 1, 11), told(3, 1, 7)
			*append(numbers(&a), numbers(&b)...)[at] = n
			leaks(t, a, b, api.Num{}, api.ErrRange)
			b.Pair.Node = 2
			leaks(t, a, b, api.Num{}, api.ErrRange)
			if at < 4 {
				leaks(t, a, a, api.Num{}, api.ErrRange)
			}
		}
		a, b := told(5, 1, 11), told(3, 1, 7)
		*append(numbers(&a), numbers(&b)...)[at] = last
		want, e := plainLeak(a, b)
		leaks(t, a, b, want, e)
	}
}

// 28.2: no secret is found.
func TestFindNone(t *testing.T) {
	finds(t, nil, 0, api.Num{}, false)
	finds(t, []audit.Told{}, 0, api.Num{}, false)
	finds(t, []audit.Told{told(5, 1, 11)}, 0, api.Num{}, false)
	finds(t, []audit.Told{{}, {}, {}}, 0, api.Num{}, false)
	finds(t, []audit.Told{told(5, 1, 11), told(5, 1, 11), told(1, 5, 7)}, 0, api.Num{}, false)
	var l []audit.Told
	for i, p := range unlike() {
		l = append(l, audit.Told{Pair: p, Weight: api.Num{uint64(i)}, Challenge: api.Num{1}})
	}
	finds(t, l, 0, api.Num{}, false)
	for i := range l {
		l[i].Pair, l[i].Factor = l[0].Pair, api.Num{uint64(i)}
	}
	finds(t, l, 0, api.Num{}, false)
}

// 28.2: the first one counts that tells a secret with one ahead, and the first such one.
func TestFind(t *testing.T) {
	a, b, c := told(5, 1, 11), told(3, 1, 7), told(1, 1, 9)
	finds(t, []audit.Told{a, b}, 1, api.Num{2}, true)
	finds(t, []audit.Told{b, a}, 1, api.Num{2}, true)
	finds(t, []audit.Told{a, a, b}, 1, api.Num{2}, true)
	// Of the same product there may be unlike shares: that of the first one counts.
	odd := a
	odd.Z = api.Num{13}
	finds(t, []audit.Told{a, odd, b}, 1, api.Num{2}, true)
	finds(t, []audit.Told{odd, a, b}, 1, api.Num{3}, true)
	finds(t, []audit.Told{a, b, c}, 1, api.Num{2}, true)
	x, _ := plainLeak(a, c)
	finds(t, []audit.Told{a, c, b}, 1, x, true)
	other := func(t audit.Told) audit.Told { t.Pair.Node = 7; return t }
	finds(t, []audit.Told{a, other(a), other(c), b}, 7, x, true)
	finds(t, []audit.Told{a, other(a), b, other(c)}, 1, api.Num{2}, true)
	finds(t, []audit.Told{other(a), b, c, a}, 1, last, true)
	// A secret may be 0, and a node none.
	a.Pair, b.Pair, b.Z = bind.Pair{}, bind.Pair{}, a.Z
	finds(t, []audit.Told{a, b}, 0, api.Num{}, true)
}

// 28.2: those that are not of scalars are passed over.
func TestFindRange(t *testing.T) {
	for at := range 4 {
		for _, n := range greats {
			a, b, bad := told(5, 1, 11), told(3, 1, 7), told(7, 1, 3)
			*numbers(&bad)[at] = n
			finds(t, []audit.Told{bad, bad}, 0, api.Num{}, false)
			finds(t, []audit.Told{a, bad}, 0, api.Num{}, false)
			finds(t, []audit.Told{bad, a}, 0, api.Num{}, false)
			finds(t, []audit.Told{bad, a, bad, b}, 1, api.Num{2}, true)
			finds(t, []audit.Told{a, bad, b, bad}, 1, api.Num{2}, true)
		}
	}
}

// 28.2: of any shares, both are as a plain look tells.
func TestAnyTold(t *testing.T) {
	source := newSource(2)
	found, pairs := 0, unlike()
	for range 1500 {
		var l []audit.Told
		count := 1 + source.Intn(3)
		for range source.Intn(9) {
			a := audit.Told{Pair: pairs[source.Intn(count)], Factor: api.Num{3: uint64(source.Intn(2))}, Z: drawn(source)}
			a.Weight, a.Challenge = drawn(source), drawn(source)
			if source.Intn(8) == 0 {
				*numbers(&a)[source.Intn(4)] = greats[source.Intn(len(greats))]
			}
			l = append(l, a)
		}
		was := slices.Clone(l)
		i, x, is := plainFind(l)
		finds(t, l, i, x, is)
		found += one(is)
		for at := range len(l) - 1 {
			want, e := plainLeak(l[at], l[at+1])
			leaks(t, l[at], l[at+1], want, e)
		}
		if !slices.Equal(l, was) {
			t.Fatalf("%v was changed", was)
		}
	}
	if found < 300 || found > 1300 {
		t.Errorf("%d of 1500 told a secret", found)
	}
}

// P1: many shares are soon gone through.
func TestManyTold(t *testing.T) {
	l := slices.Repeat([]audit.Told{told(5, 1, 11)}, 200000)
	for i := range l {
		l[i].Pair.Node = i / 2
	}
	finds(t, l, 0, api.Num{}, false)
	l[len(l)-1].Weight, l[len(l)-1].Z = api.Num{3}, api.Num{7}
	finds(t, l, 99999, api.Num{2}, true)
	for i := range l {
		l[i].Pair.Node = 3
	}
	finds(t, l, 3, api.Num{2}, true)
}
