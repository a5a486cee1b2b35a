package writ_test

import (
	"math"
	"slices"
	"strings"
	"testing"

	"wardmote/api"
	"wardmote/writ"
)

// ticks are so many choices.
func ticks(count int) []api.Choice {
	return slices.Repeat([]api.Choice{{Kind: api.DoTick, Node: 1}}, count)
}

// seeds has so many bytes.
func seeds(count int) string { return strings.Repeat("s", count) }

// everyKind is a script that has a choice of each kind.
func everyKind() (writ.Script, string) {
	return writ.Script{N: 4, F: 1, Odd: 8, Seed: "a\x00\xff", L: []api.Choice{
		{Kind: api.DoSubmit, Node: 1, ID: 7, M: "m\n "},
		{Kind: api.DoTick, Node: 2},
		{Kind: api.DoDeliver, N: 3},
		{Kind: api.DoLose, N: 4},
		{Kind: api.DoAgain, N: 5},
		{Kind: api.DoDown, Node: 3, N: -1, Mask: 255},
		{Kind: api.DoStart, Node: 3},
		{Kind: api.DoFuse, Node: 2, N: 6},
		{Kind: api.DoForge, Node: 4, N: 1, M: "\xab"},
		{Kind: api.DoRound, N: 50},
	}}, "bench 4 1 8 6100ff\nsubmit 1 7 6d0a20\ntick 2\ndeliver 3\nlose 4\nagain 5\ndown 3 -1 255\nstart 3\nfuse 2 6\n" +
		"forge 4 1 ab\nround 50\n"
}

// 27.1: the example of the chapter: three lines.
func TestExample(t *testing.T) {
	s := writ.Script{N: 4, F: 1, Seed: "a", L: []api.Choice{{Kind: api.DoTick, Node: 2}, {Kind: api.DoSubmit, Node: 1, ID: 7, M: "m"}}}
	formats(t, s, "bench 4 1 0 61\ntick 2\nsubmit 1 7 6d\n")
	parses(t, "bench 4 1 0 61\ntick 2\nsubmit 1 7 6d\n", s)
	if writ.MaxLines != 500 {
		t.Error("MaxLines")
	}
}

// 27.1: a line of each kind.
func TestKinds(t *testing.T) {
	s, text := everyKind()
	formats(t, s, text)
	parses(t, text, s)
	formats(t, writ.Script{}, "bench 0 0 0 .\n")
	parses(t, "bench 0 0 0 .\n", writ.Script{})
	for kind := 1; kind <= 10; kind++ {
		s := writ.Script{L: []api.Choice{{Kind: kind}}}
		line := lineOf(s.L[0])
		formats(t, s, "bench 0 0 0 .\n"+line+"\n")
		parses(t, "bench 0 0 0 .\n"+line+"\n", s)
	}
}

// 27.1: any number may stand where one stands, and any bytes where a text does.
func TestEdges(t *testing.T) {
	for _, n := range edges {
		s := writ.Script{N: n, F: n, L: []api.Choice{
			{Kind: api.DoSubmit, Node: n, ID: n}, {Kind: api.DoTick, Node: n}, {Kind: api.DoDeliver, N: n}, {Kind: api.DoLose, N: n},
			{Kind: api.DoAgain, N: n}, {Kind: api.DoDown, Node: n, N: n, Mask: n}, {Kind: api.DoStart, Node: n},
			{Kind: api.DoFuse, Node: n, N: n}, {Kind: api.DoForge, Node: n, N: n}, {Kind: api.DoRound, N: n},
		}}
		formats(t, s, textOf(s))
		parses(t, textOf(s), s)
	}
	every := make([]byte, 256)
	for i := range every {
		every[i] = byte(i)
	}
	for _, m := range []string{"", "\x00", "\n", " ", ".", "é", string(every), strings.Repeat("x", api.MaxText+1), seeds(1 << 20)} {
		s := writ.Script{Seed: m[:min(len(m), 60)], L: []api.Choice{{Kind: api.DoSubmit, M: m}, {Kind: api.DoForge, M: m}}}
		formats(t, s, textOf(s))
		parses(t, textOf(s), s)
	}
	for odd := range 1024 {
		s := writ.Script{Odd: odd}
		formats(t, s, textOf(s))
		parses(t, textOf(s), s)
	}
}

// 27.1: a script has at most 500 choices, and a seed of 60 bytes.
func TestLong(t *testing.T) {
	full := writ.Script{Seed: seeds(60), L: ticks(500)}
	formats(t, full, textOf(full))
	parses(t, textOf(full), full)
	for _, count := range []int{501, 502, 1000, 5000} {
		refuses(t, writ.Script{L: ticks(count)}, api.ErrLong)
	}
	for _, count := range []int{61, 62, 120, 5000} {
		refuses(t, writ.Script{Seed: seeds(count)}, api.ErrLong)
	}
	// Ahead of all that is of another form.
	bad := api.Choice{Kind: 11}
	refuses(t, writ.Script{Odd: -1, Seed: seeds(61)}, api.ErrLong)
	refuses(t, writ.Script{Odd: 1024, L: ticks(501)}, api.ErrLong)
	refuses(t, writ.Script{Seed: seeds(61), L: []api.Choice{bad}}, api.ErrLong)
	refuses(t, writ.Script{L: append([]api.Choice{bad}, ticks(500)...)}, api.ErrLong)
	refuses(t, writ.Script{Odd: -1, L: append(ticks(499), bad)}, api.ErrForm)
	refuses(t, writ.Script{Seed: seeds(60), L: append(ticks(499), bad)}, api.ErrForm)
}

// 27.1: the odd ones are bits of ten nodes.
func TestOdd(t *testing.T) {
	for _, odd := range []int{-1, -2, -1024, 1024, 1025, 2047, 1 << 20, 1 << 32, 1<<32 + 1, -1 << 32, math.MaxInt, math.MinInt} {
		refuses(t, writ.Script{Odd: odd}, api.ErrForm)
		refuses(t, writ.Script{N: 4, F: 1, Odd: odd, Seed: "a", L: ticks(3)}, api.ErrForm)
	}
}

// 27.1: a kind is one from 1 to 10.
func TestNoKind(t *testing.T) {
	for _, kind := range []int{0, -1, -10, 11, 12, 100, 1<<32 + 1, 1 - 1<<32, math.MaxInt, math.MinInt} {
		for _, c := range []api.Choice{{Kind: kind}, {Kind: kind, Node: 1}, {Kind: kind, Node: 1, N: 1, ID: 1, Mask: 1, M: "m"}} {
			refuses(t, writ.Script{L: []api.Choice{c}}, api.ErrForm)
			refuses(t, writ.Script{L: append(ticks(3), c)}, api.ErrForm)
			refuses(t, writ.Script{L: append([]api.Choice{c}, ticks(3)...)}, api.ErrForm)
		}
	}
}

// 27.1: a choice has nothing that its line does not name.
func TestUnnamed(t *testing.T) {
	for kind := 1; kind <= 10; kind++ {
		for _, letter := range []string{"i", "d", "k", "x", "m"} {
			named := slices.Contains(strings.Fields(asDrawn[kind])[1:], letter)
			for _, n := range []int{1, -1, 256, 1 << 32, math.MinInt} {
				c := api.Choice{Kind: kind}
				switch letter {
				case "i":
					c.Node = n
				case "d":
					c.N = n
				case "k":
					c.ID = n
				case "x":
					c.Mask = n
				case "m":
					c.M = "\x00"
				}
				s := writ.Script{L: []api.Choice{c}}
				if named {
					formats(t, s, textOf(s))
				} else {
					refuses(t, s, api.ErrForm)
					refuses(t, writ.Script{L: append(ticks(499), c)}, api.ErrForm)
				}
			}
		}
	}
}
