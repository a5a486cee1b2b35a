package dkg_test

import (
	"math/big"
	"slices"
	"testing"

	"wardmote/api"
	"wardmote/dkg"
	"wardmote/limb"
)

// silent is a node that tells nothing.
func silent(int, int, int, string) string { return "" }

// dealing is the text of round 0 that deals a polynomial to a node.
func dealing(line []api.Num, to int) string {
	return pack(10, commit(line), limb.Bytes(valueOf(line, to)))
}

// showing is an item that shows a number's share.
func showing(number int, s api.Num) string { return string([]byte{byte(number)}) + limb.Bytes(s) }

// ints are numbers' bytes.
func ints(numbers ...uint64) string {
	out := ""
	for _, a := range numbers {
		out += limb.Bytes(api.Num{a})[24:]
	}
	return out
}

// within is a text with its items changed.
func within(text string, change func(items []string) []string) string {
	kind, items, _ := unpack(text)
	return pack(kind, change(items)...)
}

// instead is a text with one item instead of another one.
func instead(text string, at int, item string) string {
	return within(text, func(items []string) []string {
		items[at] = item
		return items
	})
}

// more is a scalar that is so much more.
func more(a api.Num, n int64) api.Num { return scalarOf(new(big.Int).Add(bigOf(a), big.NewInt(n))) }

// 17.2, 17.3: at most f that tell nothing at all, or nothing from a round on: the others have one key, and all of them are
// dealers; so is one that was silent only when it had dealt and was complained of by nobody.
func TestSilent(t *testing.T) {
	tables(func(n, f int) {
		for from := range 8 {
			if f == 0 || n > 4 && n < 10 && from%4 != n%4 || n == 10 && (f < 3 || from > 1) {
				continue
			}
			fails := []int{1, n - 1, n}[:f]
			c := form(t, n, f, fails...).run(t, func(round, _, _ int, text string) string {
				if round >= from {
					return ""
				}
				return text
			})
			want := c.honest()
			if from > 0 {
				want = slices.Sorted(slices.Values(append(want, fails...)))
			}
			c.dealers(t, want...)
		}
	})
}

// A scene is how one of four nodes fails, and who are the dealers then.
type scene struct {
	name   string
	change tamper
	want   []int // beside those that do as told: whether it is one
}

// own are node 4's polynomial, and another one.
var own, other = line(seeds[3], 2), line("another one", 2)

// dealsWrong deals node 3 a wrong share; what it shows in round 4 is as told, or what is handed in.
func dealsWrong(items ...string) tamper {
	return func(round, _, to int, text string) string {
		switch {
		case round == 0 && to == 3:
			return instead(text, 1, limb.Bytes(more(valueOf(own, 3), 1)))
		case round == 4 && items != nil:
			return pack(14, items...)
		}
		return text
	}
}

// dealsZero deals a polynomial that is 0 at 3; but node 3 nothing, and shows what is handed in.
func dealsZero(shown string) tamper {
	return func(round, _, to int, text string) string {
		switch {
		case round == 0 && to != 3:
			return dealing([]api.Num{scalarOf(big.NewInt(-15)), {5}}, to)
		case round == 0:
			return ""
		case round == 4:
			return shown
		}
		return text
	}
}

// scenes are how node 4 fails.
func scenes() []scene {
	right, wrong := valueOf(own, 3), more(valueOf(own, 3), 1)
	three, four := []int{1, 2, 3}, []int{1, 2, 3, 4}
	return []scene{
		{"each node other commitments", func(round, _, to int, text string) string {
			if round == 0 {
				return dealing(line(seeds[to+4], 2), to)
			}
			return text
		}, three},
		{"no share for node 3", func(round, _, to int, text string) string {
			if round == 0 && to == 3 {
				return ""
			}
			return text
		}, four},
		{"no share for node 3, whose share is 0, and nothing shown", dealsZero(pack(14)), three},
		{"no share for node 3, whose share is 0, and it is shown", dealsZero(pack(14, showing(3, api.Num{}))), four},
		{"no share for node 3, whose share is 0, and Q is shown", dealsZero(pack(14, "\x03"+q)), three},
		{"another one's commitments for node 3, with its share", func(round, _, to int, text string) string {
			if round == 0 && to == 3 {
				return dealing(other, to)
			}
			return text
		}, four},
		{"another one's commitments for node 3, with the right share", func(round, _, to int, text string) string {
			if round == 0 && to == 3 {
				return pack(10, commit(other), limb.Bytes(right))
			}
			return text
		}, four},
		{"other commitments for nodes 2 and 3", func(round, _, to int, text string) string {
			if round == 0 && to > 1 {
				return dealing(other, to)
			}
			return text
		}, three},
		{"other commitments for nodes 2 and 3, and echoes both", func(round, _, to int, text string) string {
			switch {
			case round == 0 && to > 1:
				return dealing(other, to)
			case round == 1 && to > 1:
				return instead(text, 3, commit(other))
			}
			return text
		}, three},
		{"no share for node 3, shown to all but node 3, and passed on wrongly", func(round, _, to int, text string) string {
			switch {
			case (round == 0 || round == 4) && to == 3:
				return ""
			case round == 5:
				return pack(15, showing(4, wrong))
			}
			return text
		}, four},
		{"no share for node 3, shown to node 1 alone, and a vote against it", func(round, _, to int, text string) string {
			switch {
			case round == 0 && to == 3 || round == 4 && to != 1:
				return ""
			case round > 5:
				return pack(16, "\x01\x01\x01\x00")
			}
			return text
		}, three},
		{"a wrong share, shown rightly", dealsWrong(), four},
		{"a wrong share, shown again", dealsWrong(showing(3, wrong)), three},
		{"a wrong share, shown twice, rightly behind", dealsWrong(showing(3, wrong), showing(3, right)), four},
		{"a wrong share, shown twice, rightly ahead", dealsWrong(showing(3, right), showing(3, wrong)), four},
		{"a wrong share, shown twice wrongly", dealsWrong(showing(3, wrong), showing(3, more(wrong, 1))), three},
		{"a wrong share, others shown", dealsWrong(showing(1, valueOf(own, 1)), showing(2, valueOf(own, 2))), three},
		{"a wrong share, all shown", dealsWrong(
			showing(4, valueOf(own, 4)), showing(3, right), showing(2, valueOf(own, 2)), showing(1, valueOf(own, 1))), four},
		{"a wrong share, another node's shown", dealsWrong(showing(3, valueOf(own, 2))), three},
		{"a wrong share, shown as another node's", dealsWrong(showing(2, right)), three},
		{"a wrong share, shown among what is no item", dealsWrong("", "\x03", showing(0, right), showing(255, right), showing(3, right)), four},
		{"a wrong share, shown with a byte too many", dealsWrong(showing(3, right) + "\x00"), three},
		{"a wrong share, nothing shown", dealsWrong([]string{}...), three},
	}
}

// 17.1 to 17.3: how node 4 fails as a dealer.
func TestScenes(t *testing.T) {
	for _, s := range scenes() {
		t.Run(s.name, func(t *testing.T) { form(t, 4, 1, 4).run(t, s.change).dealers(t, s.want...) })
	}
}

// 17.1: the document's example: node 4 deals node 3 no share; node 3 complains, is shown it, and all four have one key.
func TestThirdComplains(t *testing.T) {
	c := form(t, 4, 1, 4)
	change := func(round, _, to int, text string) string {
		if round == 0 && to == 3 {
			return ""
		}
		return text
	}
	shown := showing(4, valueOf(own, 3))
	for _, known := range []struct {
		round, from, to int
		text            string
	}{
		{3, 1, 3, pack(13, "")}, {3, 3, 1, pack(13, ints(4))}, {4, 1, 3, pack(14)}, {4, 4, 1, pack(14, showing(3, valueOf(own, 3)))},
		{5, 1, 3, pack(15, shown)}, {5, 3, 3, pack(15, shown)}, {5, 1, 2, pack(15)}, {6, 3, 1, pack(16, "\x01\x01\x01\x01")},
	} {
		for c.nodes[0].Round() < known.round {
			c.step(t, change)
		}
		if got := c.nodes[known.from-1].Send()[known.to-1]; got != known.text {
			t.Errorf("round %d, from %d to %d: %x", known.round, known.from, known.to, got)
		}
	}
	for c.nodes[0].Round() < 12 {
		c.step(t, change)
	}
	c.dealers(t, 1, 2, 3, 4)
	c.fails = nil
	c.dealers(t, 1, 2, 3, 4)
}

// 17.2: nodes that echo, mark or complain wrongly of dealers that did as told, alike to all: these stay dealers.
func TestWrongOfOthers(t *testing.T) {
	for name, change := range map[string]tamper{
		"echoes another one's commitments": func(round, _, _ int, text string) string {
			if round == 1 {
				return pack(11, slices.Repeat([]string{commit(other)}, 4)...)
			}
			return text
		},
		"echoes no commitments": func(round, _, _ int, text string) string {
			if round == 1 {
				return pack(11, "a", "", commit(own[:1]), commit(line("long", 3)))
			}
			return text
		},
		"marks another one's commitments": func(round, _, _ int, text string) string {
			if round == 2 {
				return pack(12, slices.Repeat([]string{markOf(commit(other))}, 4)...)
			}
			return text
		},
		"echoes and marks another one's commitments": func(round, _, _ int, text string) string {
			switch round {
			case 1:
				return pack(11, slices.Repeat([]string{commit(other)}, 4)...)
			case 2:
				return pack(12, slices.Repeat([]string{markOf(commit(other))}, 4)...)
			}
			return text
		},
		"complains of all": func(round, _, _ int, text string) string {
			if round == 3 {
				return pack(13, ints(1, 2, 3, 4))
			}
			return text
		},
		"passes wrong shares on": func(round, _, to int, text string) string {
			if round == 5 {
				return pack(15, showing(1, api.Num{1}), showing(2, valueOf(own, to)), showing(3, api.Num{}), showing(4, api.Num{}))
			}
			return text
		},
		"votes against all": func(round, _, _ int, text string) string {
			if round > 5 {
				return pack(16, "\x00\x00\x00\x00")
			}
			return text
		},
	} {
		t.Run(name, func(t *testing.T) {
			got := form(t, 4, 1, 4).run(t, change).oneKey(t)
			if len(got) < 3 || !slices.Equal(got[:3], []int{1, 2, 3}) {
				t.Errorf("dealers %v", got)
			}
		})
	}
}

// 17.2: a node that complains of a dealer to all others, and not to the dealer, who then shows nothing: as the words are,
// those others vote 0, and the dealer is left out, if the one that fails votes so too. All have one key still.
func TestTwoFacedComplaint(t *testing.T) {
	for words, want := range map[string][]int{"\x00\x01\x01\x01": {2, 3, 4}, "\x01\x01\x01\x01": {1, 2, 3, 4}} {
		c := form(t, 4, 1, 4).run(t, func(round, _, to int, text string) string {
			switch {
			case round == 3 && to != 1:
				return pack(13, ints(1))
			case round > 5:
				return pack(16, words)
			}
			return text
		})
		c.dealers(t, want...)
	}
}

// cancelling is a tamper by which node 4 deals a polynomial that makes those coefficients of the sum 0 that are named.
func cancelling(places ...int) tamper {
	sum := line(seeds[3], 2)
	for _, at := range places {
		all := new(big.Int)
		for _, seed := range seeds[:3] {
			all.Add(all, bigOf(line(seed, 2)[at]))
		}
		sum[at] = scalarOf(all.Neg(all))
	}
	return func(round, _, to int, text string) string {
		if round == 0 {
			return dealing(sum, to)
		}
		return text
	}
}

// 17.1, 17.2: there is no key, if the public point is the one at infinity; another point of the group may be it.
func TestPublicAtInfinity(t *testing.T) {
	for _, places := range [][]int{{0}, {0, 1}} {
		c := form(t, 4, 1, 4).run(t, cancelling(places...))
		for _, x := range c.nodes[:3] {
			hasKey(t, x, dkg.Key{}, false)
		}
	}
	c := form(t, 4, 1, 4).run(t, cancelling(1))
	c.dealers(t, 1, 2, 3, 4)
	a, _ := c.nodes[0].Key()
	b, _ := c.nodes[1].Key()
	if !a.Group[1].Inf || a.Share != b.Share {
		t.Errorf("%v, %v", a, b)
	}
}

// 17.1: a dealer of commitments that are all, or partly, the point at infinity deals.
func TestDealsInfinity(t *testing.T) {
	for _, line := range [][]api.Num{{{}, {}}, {{5}, {}}, {{}, {5}}} {
		form(t, 4, 1, 4).run(t, func(round, _, to int, text string) string {
			if round == 0 {
				return dealing(line, to)
			}
			return text
		}).dealers(t, 1, 2, 3, 4)
	}
}
