package dkg_test

import (
	"crypto/sha256"
	"encoding/hex"
	"math"
	"slices"
	"strings"
	"testing"

	"wardmote/api"
	"wardmote/dkg"
	"wardmote/limb"
)

// failsNew looks for the error, and for nothing beside it (R4).
func failsNew(t *testing.T, n, f, self int, seed string, want api.Errno) {
	t.Helper()
	if x, e := dkg.New(n, f, self, seed); x != nil || e != want {
		t.Fatalf("New(%d, %d, %d, of %d bytes): %v, %v, not %v", n, f, self, len(seed), x, e, want)
	}
}

// 17.1: all tables and no others; all nodes of each and no others; seeds of 0 to 64 bytes.
func TestNew(t *testing.T) {
	for n := -2; n <= 13; n++ {
		for f := -2; f <= 5; f++ {
			for self := -1; self <= n+2; self++ {
				if n < 1 || n > 10 || f < 0 || 3*f >= n || self < 1 || self > n {
					failsNew(t, n, f, self, "", api.ErrArg)
					failsNew(t, n, f, self, strings.Repeat("s", 65), api.ErrArg)
					continue
				}
				for _, length := range []int{0, 1, 63, 64} {
					rounds(t, begin(t, n, f, self, strings.Repeat("s", length)), 0, 6+3*(f+1))
				}
				for _, length := range []int{65, 66, 1000} {
					failsNew(t, n, f, self, strings.Repeat("s", length), api.ErrLong)
				}
			}
		}
	}
}

// 17.1: numbers of which three times, or mod 2^32, would be a table's.
func TestNewFar(t *testing.T) {
	for _, far := range []int{math.MinInt, math.MaxInt, -1 << 32, 1<<32 + 1, 1<<32 + 4, math.MaxInt/3 + 1, math.MinInt/3 - 1} {
		failsNew(t, far, 0, 1, "", api.ErrArg)
		failsNew(t, 4, far, 1, "", api.ErrArg)
		failsNew(t, 4, 1, far, "", api.ErrArg)
		failsNew(t, 4, 1, far, strings.Repeat("s", 65), api.ErrArg)
	}
}

// hexOf is hex of bytes.
func hexOf(s string) string { return hex.EncodeToString([]byte(s)) }

// codesOf are points' bytes in hex.
func codesOf(points []api.Point) string { return hexOf(codeOf(points...)) }

// 17.1: the document's example: a node alone: nine rounds, and the public point is the first coefficient's.
func TestAlone(t *testing.T) {
	for _, seed := range []string{"", "a", strings.Repeat("\x00", 64), strings.Repeat("\xff", 63)} {
		x := begin(t, 1, 0, 1, seed)
		for round := range 9 {
			rounds(t, x, round, 9)
			hasKey(t, x, dkg.Key{}, false)
			hears(t, x, x.Send())
		}
		rounds(t, x, 9, 9)
		s := line(seed, 1)[0]
		public := timesG(s)
		want := dkg.Key{N: 1, Self: 1, Share: s, Public: public, Group: []api.Point{public}, Dealers: []int{1}}
		hasKey(t, x, want, true)
		if seed == "" && (hexOf(limb.Bytes(s)) != "f7f4b954cf4f31f99f53e2719ead213898f98f549f6b26c2131d1fc3997521df" ||
			codesOf([]api.Point{public}) != "0102f314e9cfe7824142fd17f89b9f6f2d23d2734542df5a4bb737ab784ea8885c11") {
			t.Errorf("%x, %v", limb.Bytes(s), public)
		}
	}
}

// 17.1: what another program reckoned: the texts of the first rounds, and the key, of four nodes.
func TestKnown(t *testing.T) {
	c := form(t, 4, 1)
	for round, want := range [][]string{
		{
			"f07c46f35e91de51967b650385e42e2f59b0550fbbf58a8a4a9632af31a5fdca",
			"df84bce9bac909c2b323a0594c579f9f7d3d91aff14abd80c87accff1efc6930",
			"168d052af3c1a5e02621f6bbb8121b9242d2d11c51dfd03c5154e4f957cf1477",
			"57c404bacb2e95c3ccc505bf0181a250dd4907863f377cefdcc4b6cf533587a6",
		},
		slices.Repeat([]string{"e6dfaab8fe8c74d8c637536e81ed55aa9e18a29e34d6a40baa6026a281309dfa"}, 4),
		slices.Repeat([]string{"586dbe1a7ad57b399b4b29a07cb441512b007f94440c91b122d4a7b6c7120471"}, 4),
	} {
		for i, text := range c.nodes[0].Send() {
			if sum := sha256.Sum256([]byte(text)); hex.EncodeToString(sum[:]) != want[i] {
				t.Errorf("round %d, to %d: %x", round, i+1, text)
			}
		}
		c.step(t, nil)
	}
	for _, want := range []string{"\x0d\x01\x00\x00", "\x0e\x00", "\x0f\x00", "\x10\x01\x00\x04\x01\x01\x01\x01"} {
		if got := c.nodes[0].Send(); !slices.Equal(got, slices.Repeat([]string{want}, 4)) {
			t.Errorf("round %d: %x", c.nodes[0].Round(), got)
		}
		c.step(t, nil)
	}
	for c.nodes[0].Round() < 12 {
		c.step(t, nil)
	}
	for i, s := range []string{
		"49fd7a3ac1d2e3eebbd2c54b924a60e853e964045ea99a7630ef30a6e909f81e",
		"2c4ad6041f024469d2a6af8d6f657c75e3c26aa62725082c6302551110d4e342",
		"0e9831cd7c31a4e4e97a99cf4c809803739b7147efa075e29515797b389fce66",
		"f0e58d96d9610560004e8411299bb38fbe2354d0676483d486fafc7230a0facb",
	} {
		key, is := c.nodes[i].Key()
		group := "02034828a9201b354e42b10b08c67164040f1627f01f56eef92c422177e4784ab75e" +
			"030e5c9bfe8975e372ac393841d0228f05a55188941054f73f564f5bca9f97d54e"
		if !is || hexOf(limb.Bytes(key.Share)) != s || codesOf(key.Group) != group || key.Public != key.Group[0] ||
			!slices.Equal(key.Dealers, []int{1, 2, 3, 4}) || key.N != 4 || key.F != 1 || key.Self != i+1 {
			t.Errorf("node %d: %v, %v", i+1, key, is)
		}
	}
}

// 17.1: the same without what node 3 deals.
func TestKnownOfThree(t *testing.T) {
	c := form(t, 4, 1, 3).run(t, silent)
	key, is := c.nodes[3].Key()
	group := "0203febdd9e81dbdd361bf24e3377481e7b8ea8f04ada1dbe9ce63b9353519f6bc33" +
		"0395cfc3874ef5982454caa26343f97674a5e6506cedbf699accd4d0ee660dd20a"
	if !is || codesOf(key.Group) != group || !slices.Equal(key.Dealers, []int{1, 2, 4}) ||
		hexOf(limb.Bytes(key.Share)) != "3f0a2032cab9f6f1a27365c1d41eeaefad3b758bd7b8139c99f2e5d0eeb4276e" {
		t.Errorf("%v, %v", key, is)
	}
}

// 17.1: all tables, all nodes doing as told: as plain ones, round by round; the key is of the sum of all polynomials.
func TestAllDoAsTold(t *testing.T) {
	tables(func(n, f int) {
		c := form(t, n, f).run(t, nil)
		want := make([]int, n)
		for i := range want {
			want[i] = i + 1
		}
		c.dealers(t, want...)
	})
}

// 17.1: Send, Hear and Key ahead of, between and behind all rounds; n - 1 and n + 1 texts in each: nothing is gone through,
// and nothing of it is heard.
func TestWrongCounts(t *testing.T) {
	for _, table := range [][2]int{{1, 0}, {4, 1}, {10, 3}} {
		n, f := table[0], table[1]
		c := form(t, n, f)
		x, all := c.nodes[n-1], 6+3*(f+1)
		for round := range all {
			texts := x.Send()
			for _, length := range []int{0, n - 1, n + 1, 2 * n, 100} {
				for _, text := range []string{"", texts[0], "junk"} {
					if e := x.Hear(slices.Repeat([]string{text}, length)); e != api.ErrArg {
						t.Fatalf("round %d: Hear of %d texts: %v", round, length, e)
					}
				}
			}
			if e := x.Hear(nil); e != api.ErrArg {
				t.Fatalf("Hear of none: %v", e)
			}
			rounds(t, x, round, all)
			hasKey(t, x, dkg.Key{}, false)
			if again := x.Send(); !slices.Equal(again, texts) || len(again) != n {
				t.Fatalf("round %d: Send: %x, then %x", round, texts, again)
			}
			c.step(t, nil)
		}
		key, is := x.Key()
		for _, length := range []int{0, n - 1, n, n + 1} {
			if e := x.Hear(make([]string, length)); e != api.ErrState {
				t.Fatalf("Hear of %d texts, done: %v", length, e)
			}
			rounds(t, x, all, all)
			hasKey(t, x, key, is)
			if got := x.Send(); len(got) != 0 {
				t.Fatalf("Send, done: %x", got)
			}
		}
	}
}

// 17.1: a nil node; and one that nobody made.
func TestNil(t *testing.T) {
	for _, x := range []*dkg.Node{nil, {}} {
		for range 2 {
			rounds(t, x, 0, 0)
			hasKey(t, x, dkg.Key{}, false)
			if got := x.Send(); len(got) != 0 {
				t.Errorf("Send: %x", got)
			}
			for _, told := range [][]string{nil, {}, {""}, {"", "", "", ""}} {
				if e := x.Hear(told); e != api.ErrState {
					t.Errorf("Hear: %v", e)
				}
			}
		}
	}
}

// 17.1: a node that is told nothing in all rounds has no key.
func TestToldNothing(t *testing.T) {
	tables(func(n, f int) {
		x, p := begin(t, n, f, n, "s"), &plain{n: n, f: f, self: n, seed: "s"}
		for x.Round() < x.Rounds() {
			told := make([]string, n)
			hears(t, x, told)
			p.told = append(p.told, told)
			like(t, x, p)
		}
		hasKey(t, x, dkg.Key{}, false)
	})
}

// R3: what is told is not changed, spare room too, and not kept; answers are memory of their own.
func TestApart(t *testing.T) {
	c := form(t, 4, 1)
	heard := history(t, 4, 1)
	x := begin(t, 4, 1, 2, seeds[1])
	for round := range heard {
		texts := x.Send()
		was := slices.Clone(texts)
		room := append(slices.Clone(heard[round][1]), "spare", "room")
		hears(t, x, room[:4])
		if !slices.Equal(room, append(slices.Clone(heard[round][1]), "spare", "room")) {
			t.Fatalf("round %d: changed", round)
		}
		clear(room)
		clear(texts[:cap(texts)])
		if again := c.nodes[1].Send(); !slices.Equal(again, was) {
			t.Fatalf("round %d: %x, not %x", round, again, was)
		}
		c.step(t, nil)
	}
	key, is := x.Key()
	if !is {
		t.Fatal("no key")
	}
	was := key
	was.Group, was.Dealers = slices.Clone(key.Group), slices.Clone(key.Dealers)
	clear(key.Group[:cap(key.Group)])
	clear(key.Dealers[:cap(key.Dealers)])
	hasKey(t, x, was, true)
	hasKey(t, c.nodes[1], was, true)
}
