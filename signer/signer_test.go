package signer_test

import (
	"math"
	"slices"
	"strings"
	"testing"

	"wardmote/api"
	"wardmote/bind"
	"wardmote/dkg"
	"wardmote/signer"
)

// begin is a signer.
func begin(t *testing.T, k dkg.Key, seed string, used int) *signer.Signer {
	t.Helper()
	s, e := signer.New(k, seed, used)
	if s == nil || e != api.OK {
		t.Fatalf("New(%v, %q, %d): %v, %v", k, seed, used, s, e)
	}
	return s
}

// refuses looks for New's error, and for nothing beside it (R4).
func refuses(t *testing.T, what string, k dkg.Key, seed string, used int, want api.Errno) {
	t.Helper()
	if s, e := signer.New(k, seed, used); s != nil || e != want {
		t.Errorf("New, %s, seed of %d bytes, %d used: %v, %v, not %v", what, len(seed), used, s, e, want)
	}
}

// issues looks for the next nonce, and is its pair.
func issues(t *testing.T, s *signer.Signer, want int) bind.Pair {
	t.Helper()
	n, pair, e := s.Issue()
	if n != want || e != api.OK || s.Issued() != want || s.Spent(want) {
		t.Fatalf("Issue: %d, %v, not %d; Issued: %d; Spent: %v", n, e, want, s.Issued(), s.Spent(want))
	}
	return pair
}

// isFull looks for a signer that issues nothing.
func isFull(t *testing.T, s *signer.Signer) {
	t.Helper()
	if n, pair, e := s.Issue(); n != 0 || pair != (bind.Pair{}) || e != api.ErrFull {
		t.Errorf("Issue: %d, %v, %v", n, pair, e)
	}
}

// signs looks for a share, and for a nonce that is spent from then on.
func signs(t *testing.T, s *signer.Signer, nonce int, m string, l []bind.Pair, want api.Num) {
	t.Helper()
	if s.Spent(nonce) {
		t.Fatalf("nonce %d is spent", nonce)
	}
	if z, e := s.Sign(nonce, m, l); z != want || e != api.OK {
		t.Fatalf("Sign(%d): %v, %v, not %v", nonce, z, e, want)
	}
	if !s.Spent(nonce) {
		t.Fatalf("nonce %d is not spent", nonce)
	}
}

// fails looks for Sign's error, for nothing beside it (R4), and for a signer that is as it was.
func fails(t *testing.T, what string, s *signer.Signer, nonce int, m string, l []bind.Pair, want api.Errno) {
	t.Helper()
	issued, spent := s.Issued(), s.Spent(nonce)
	if z, e := s.Sign(nonce, m, l); z != (api.Num{}) || e != want {
		t.Errorf("%s: Sign(%d): %v, %v, not %v", what, nonce, z, e, want)
	}
	if s.Issued() != issued || s.Spent(nonce) != spent {
		t.Errorf("%s: Sign(%d) changed something", what, nonce)
	}
}

// 19.1, 19.2: the document's example.
func TestExample(t *testing.T) {
	k := keyOf(1, 1, []api.Num{{7}})
	s := begin(t, k, "seed", 0)
	l := []bind.Pair{issues(t, s, 1)}
	signs(t, s, 1, "m", l, shareOf(k, "seed", 1, "m", l))
	fails(t, "spent", s, 1, "m", l, api.ErrSpent)
	fails(t, "not issued", s, 2, "m", l, api.ErrNone)
}

// 19.1: signers of each table, by each of its nodes, with all that may be used.
func TestNew(t *testing.T) {
	tables(func(n, f int) {
		line := []api.Num{{3}, {1}, {4}, {1}}[:f+1]
		for self := 1; self <= n; self++ {
			for _, used := range []int{0, 1, 5, 1 << 32, api.MaxBig - 1, api.MaxBig} {
				s := begin(t, keyOf(n, self, line), "s", used)
				if got := s.Issued(); got != used {
					t.Fatalf("Issued: %d, not %d", got, used)
				}
				for _, nonce := range []int{1, 2, 5, used / 2, used - 1, used, used + 1, api.MaxBig, api.MaxBig + 1} {
					if got, want := s.Spent(nonce), nonce >= 1 && nonce <= used; got != want {
						t.Fatalf("%d used: Spent(%d): %v, not %v", used, nonce, got, want)
					}
				}
			}
		}
	})
}

// 19.1: no number that is none of a nonce's is spent.
func TestNotSpent(t *testing.T) {
	for _, used := range []int{0, 3, api.MaxBig} {
		s := begin(t, plainKey(), "s", used)
		for _, nonce := range []int{0, -1, -3, math.MinInt, used + 1, api.MaxBig + 1, math.MaxInt} {
			if s.Spent(nonce) {
				t.Errorf("%d used: Spent(%d)", used, nonce)
			}
		}
	}
}

// change is a key that has something else.
func change(do func(k *dkg.Key)) dkg.Key {
	k := plainKey()
	do(&k)
	return k
}

// wrongKeys are keys that do not serve.
func wrongKeys() map[string]dkg.Key {
	three := []api.Point{timesG(api.Num{11}), timesG(api.Num{5}), g}
	out := map[string]dkg.Key{
		"nothing":        {},
		"N 3, F 1":       change(func(k *dkg.Key) { k.N = 3 }),
		"N 0":            change(func(k *dkg.Key) { k.N = 0 }),
		"N 0, F 0":       change(func(k *dkg.Key) { k.N, k.F, k.Group = 0, 0, three[:1] }),
		"N 11":           change(func(k *dkg.Key) { k.N = 11 }),
		"N least":        change(func(k *dkg.Key) { k.N = math.MinInt }),
		"F -1":           change(func(k *dkg.Key) { k.F = -1 }),
		"F -1, no group": change(func(k *dkg.Key) { k.F, k.Group = -1, nil }),
		"F 2":            change(func(k *dkg.Key) { k.F, k.Group = 2, three }),
		"F most":         change(func(k *dkg.Key) { k.F = math.MaxInt }),
		"F least":        change(func(k *dkg.Key) { k.F = math.MinInt }),
		"Self 0":         change(func(k *dkg.Key) { k.Self = 0 }),
		"Self -1":        change(func(k *dkg.Key) { k.Self = -1 }),
		"Self 5":         change(func(k *dkg.Key) { k.Self = 5 }),
		"Share Q":        change(func(k *dkg.Key) { k.Share = q }),
		"Share most":     change(func(k *dkg.Key) { k.Share = most }),
		"no group":       change(func(k *dkg.Key) { k.Group = nil }),
		"F points":       change(func(k *dkg.Key) { k.Group = k.Group[:1] }),
		"F + 2 points":   change(func(k *dkg.Key) { k.Group = three }),
		"at infinity":    change(func(k *dkg.Key) { k.Group[0], k.Public = infinity, infinity }),
		"Group at it":    change(func(k *dkg.Key) { k.Group[0] = infinity }),
		"Public at it":   change(func(k *dkg.Key) { k.Public = infinity }),
		"other Public":   change(func(k *dkg.Key) { k.Public = g }),
		"second Public":  change(func(k *dkg.Key) { k.Public = k.Group[1] }),
		"no Public":      change(func(k *dkg.Key) { k.Public = api.Point{} }),
	}
	for i, a := range strangers {
		mark := string(rune('a' + i))
		out["stranger first "+mark] = change(func(k *dkg.Key) { k.Group[0], k.Public = a, a })
		out["stranger last "+mark] = change(func(k *dkg.Key) { k.Group[1] = a })
	}
	return out
}

// 19.1: keys that do not serve, whatever else is wrong.
func TestNewKey(t *testing.T) {
	for what, k := range wrongKeys() {
		for _, seed := range []string{"", "seed", strings.Repeat("s", 65)} {
			for _, used := range []int{0, 3, -1, api.MaxBig + 1} {
				refuses(t, what, k, seed, used, api.ErrArg)
			}
		}
	}
}

// 19.1: keys that serve: nothing is asked of the dealers, nor of points behind the first, nor is the share checked.
func TestKeysThatServe(t *testing.T) {
	for _, k := range []dkg.Key{
		change(func(k *dkg.Key) { k.Dealers = []int{1, 99, -5} }),
		change(func(k *dkg.Key) { k.Group[1] = infinity }),
		change(func(k *dkg.Key) { k.Group[1] = k.Group[0] }),
		change(func(k *dkg.Key) { k.Share = api.Num{} }),
		change(func(k *dkg.Key) { k.Share = scalarOf(bigOf(api.Num{}).Sub(bigQ, bigOf(api.Num{1}))) }),
		change(func(k *dkg.Key) { k.Self = 1 }),
		change(func(k *dkg.Key) { k.Self = 4 }),
		change(func(k *dkg.Key) { k.N = 10 }),
		change(func(k *dkg.Key) { k.F, k.Group = 0, k.Group[:1] }),
	} {
		s := begin(t, k, "s", 0)
		own := issues(t, s, 1)
		l := []bind.Pair{own}
		for node := 1; len(l) <= k.F; node++ {
			if node != k.Self {
				l = append(l, bind.Pair{Node: node, D: g, E: g})
			}
		}
		slices.SortFunc(l, func(a, b bind.Pair) int { return a.Node - b.Node })
		signs(t, s, 1, "m", l, shareOf(k, "s", 1, "m", l))
	}
}

// 19.1: numbers that none may be used; they come ahead of the seed.
func TestNewUsed(t *testing.T) {
	for _, used := range []int{-1, -2, math.MinInt, -api.MaxBig, api.MaxBig + 1, 2 * api.MaxBig, math.MaxInt} {
		for _, length := range []int{0, 1, 64, 65, 5000} {
			refuses(t, "used", plainKey(), strings.Repeat("s", length), used, api.ErrArg)
		}
	}
}

// 19.1: seeds of 0 to 64 bytes, and longer ones.
func TestNewSeed(t *testing.T) {
	for _, length := range []int{0, 1, 63, 64} {
		seed := strings.Repeat("\xff", length)
		s := begin(t, plainKey(), seed, 4)
		if got, want := issues(t, s, 5), pairOf(2, seed, 5); got != want {
			t.Errorf("seed of %d bytes: %v, not %v", length, got, want)
		}
	}
	for _, length := range []int{65, 66, 128, 5000} {
		for _, used := range []int{0, 4, api.MaxBig} {
			refuses(t, "seed", plainKey(), strings.Repeat("s", length), used, api.ErrLong)
		}
	}
}

// 19.1: nonces have their numbers, and pairs of the seed, the number and the node alone.
func TestIssue(t *testing.T) {
	seen := map[api.Point]bool{}
	count := 0
	for _, seed := range []string{"", "a", "b"} {
		for _, used := range []int{0, 100, 1 << 33} {
			s, other := begin(t, plainKey(), seed, used), begin(t, keyOf(7, 6, []api.Num{{1}, {2}, {3}}), seed, used)
			for nonce := used + 1; nonce <= used+4; nonce++ {
				pair, theirs := issues(t, s, nonce), issues(t, other, nonce)
				if pair != pairOf(2, seed, nonce) || theirs != pairOf(6, seed, nonce) {
					t.Fatalf("seed %q, nonce %d: %v, %v", seed, nonce, pair, theirs)
				}
				seen[pair.D], seen[pair.E] = true, true
				count += 2
			}
		}
	}
	if len(seen) != count {
		t.Errorf("%d points of %d", len(seen), count)
	}
}

// 19.1: a signer that is opened again goes on where one ended.
func TestIssueGoesOn(t *testing.T) {
	s := begin(t, plainKey(), "s", 0)
	var pairs []bind.Pair
	for nonce := 1; nonce <= 6; nonce++ {
		pairs = append(pairs, issues(t, s, nonce))
	}
	for used := range 6 {
		if got := issues(t, begin(t, plainKey(), "s", used), used+1); got != pairs[used] {
			t.Errorf("%d used: %v, not %v", used, got, pairs[used])
		}
	}
}

// 19.1: MaxBig are issued at most; the last one is used as all others.
func TestIssueFull(t *testing.T) {
	k := plainKey()
	s := begin(t, k, "s", api.MaxBig)
	isFull(t, s)
	if s.Issued() != api.MaxBig || !s.Spent(api.MaxBig) || s.Spent(api.MaxBig+1) {
		t.Errorf("Issued: %d", s.Issued())
	}
	s = begin(t, k, "s", api.MaxBig-2)
	first, last := issues(t, s, api.MaxBig-1), issues(t, s, api.MaxBig)
	if first != pairOf(2, "s", api.MaxBig-1) || last != pairOf(2, "s", api.MaxBig) {
		t.Errorf("Issue: %v, %v", first, last)
	}
	for range 3 {
		isFull(t, s)
		if s.Issued() != api.MaxBig || s.Spent(api.MaxBig) || s.Spent(api.MaxBig-1) || !s.Spent(api.MaxBig-2) {
			t.Errorf("Issued: %d", s.Issued())
		}
	}
	l := []bind.Pair{last, {Node: 3, D: g, E: g}}
	signs(t, s, api.MaxBig, "m", l, shareOf(k, "s", api.MaxBig, "m", l))
	isFull(t, s)
	fails(t, "above all", s, api.MaxBig+1, "m", l, api.ErrNone)
}

// 19.1, 19.2: a signer that is none, nil or not made by New.
func TestNil(t *testing.T) {
	l := []bind.Pair{{Node: 1, D: g, E: g}}
	for _, s := range []*signer.Signer{nil, new(signer.Signer)} {
		isFull(t, s)
		for _, nonce := range []int{0, -1, math.MinInt} {
			fails(t, "nil", s, nonce, "m", l, api.ErrArg)
			fails(t, "nil", s, nonce, long, nil, api.ErrArg)
		}
		for _, nonce := range []int{1, 2, api.MaxBig, math.MaxInt} {
			fails(t, "nil", s, nonce, "m", l, api.ErrNone)
			fails(t, "nil", s, nonce, long, nil, api.ErrNone)
		}
		for _, nonce := range []int{-1, 0, 1, api.MaxBig} {
			if s.Spent(nonce) || s.Issued() != 0 {
				t.Errorf("Spent(%d), Issued: %d", nonce, s.Issued())
			}
		}
	}
}
