package note_test

import (
	"math"
	"slices"
	"testing"

	"wardmote/api"
	"wardmote/bind"
	"wardmote/note"
)

// 23.1: the document's example, and its numbers.
func TestExample(t *testing.T) {
	s, e := note.Encode(note.Note{Kind: note.Beat, View: 5})
	want := "\x25\x05\x00\x20" + "\x00\x00\x00\x00\x00\x00\x00\x05" + string(make([]byte, 24)) + string(make([]byte, 8))
	if s != want || len(s) != 44 || e != api.OK {
		t.Errorf("Encode: %q, %v", s, e)
	}
	numbers := [7]int{note.Gossip, note.Ask, note.Offer, note.Open, note.Share, note.Final, note.Beat}
	if numbers != [7]int{1, 2, 3, 4, 5, 6, 7} {
		t.Errorf("%v", numbers)
	}
}

// 23.1, 23.2: notes of each kind.
func TestKinds(t *testing.T) {
	kinds(func(kind int) { is(t, plain(kind)) })
	for _, kind := range []int{0, 8, 9, -1, -23, -29, -30, 30, 31, 33, 34, 225, 226, 256, 257, 1 << 32, 1<<32 + 1, math.MinInt, math.MaxInt} {
		isOrNone(t, note.Note{Kind: kind}, false)
		for like := gossip; like <= beat; like++ {
			n := plain(like)
			n.Kind = kind
			isOrNone(t, n, false)
		}
	}
}

// 23.1: a note of a kind is none of another one that has other fields.
func TestOtherKinds(t *testing.T) {
	kinds(func(kind int) {
		kinds(func(other int) {
			n := plain(kind)
			n.Kind = other
			switch {
			case kind == other:
			case kind == offer && other == open:
				// An Open may have no message and one pair.
				is(t, n)
			case kind == offer && other == share:
				// A Share may be 0; its bytes tell it.
				is(t, n)
			default:
				isOrNone(t, n, false)
			}
		})
	})
}

// A span is what a number may be, where the kind has it.
type span struct {
	field       string
	at          func(n *note.Note) *int
	least, most int
}

var spans = []span{
	{"view", func(n *note.Note) *int { return &n.View }, 0, big},
	{"name", func(n *note.Note) *int { return &n.Origin }, 1, 10},
	{"name", func(n *note.Note) *int { return &n.ID }, 1, big},
	{"session", func(n *note.Note) *int { return &n.Session }, 1, big},
}

// 23.1: each number at its least and its greatest, one below and one above, and far off; one that the kind has not.
func TestNumbers(t *testing.T) {
	kinds(func(kind int) {
		for _, s := range spans {
			for _, value := range []int{
				s.least, s.least + 1, s.most - 1, s.most, s.least - 1, s.most + 1, 0, 1, -1, 11, 1<<32 + 1, big, big + 1, 1 << 41,
				math.MinInt, math.MaxInt, -big, 1 - 1<<32,
			} {
				n := plain(kind)
				*s.at(&n) = value
				isOrNone(t, n, has(kind, s.field) && s.least <= value && value <= s.most || !has(kind, s.field) && value == 0)
			}
		}
	})
}

// 23.1: all numbers at their ends.
func TestNumbersAtOnce(t *testing.T) {
	kinds(func(kind int) {
		least, most := plain(kind), plain(kind)
		for _, s := range spans {
			if has(kind, s.field) {
				*s.at(&least), *s.at(&most) = s.least, s.most
			}
		}
		is(t, least)
		is(t, most)
	})
}

// 23.1: messages of no byte, of MaxText and of one more; one of a kind that has none.
func TestMessages(t *testing.T) {
	kinds(func(kind int) {
		for _, m := range messages {
			n := plain(kind)
			n.M = m
			isOrNone(t, n, has(kind, "message") || m == "")
		}
		for _, m := range []string{long, long + "m", full + full, full + full + full + full} {
			n := plain(kind)
			n.M = m
			isOrNone(t, n, false)
		}
	})
}

// 23.1: Z that is a scalar, and that is none; one of a kind that has none.
func TestScalars(t *testing.T) {
	kinds(func(kind int) {
		for _, z := range scalars {
			n := plain(kind)
			n.Z = z
			isOrNone(t, n, has(kind, "scalar") || z == api.Num{})
		}
		for _, z := range noScalars {
			n := plain(kind)
			n.Z = z
			isOrNone(t, n, false)
		}
	})
}

// 23.1: L of no pair, of one, of two and of more; one of a kind that has none.
func TestLists(t *testing.T) {
	kinds(func(kind int) {
		for _, l := range [][]bind.Pair{
			nil, {}, pairs(1), pairs(7), pairs(10), pairs(1, 2), pairs(3, 10), pairs(2, 3, 4), pairs(1, 2, 3, 4, 5, 6, 7, 8, 9, 10),
		} {
			n := plain(kind)
			n.L = l
			switch len(l) {
			case 0:
				isOrNone(t, n, !has(kind, "pair") && !has(kind, "list"))
			case 1:
				isOrNone(t, n, has(kind, "pair") || has(kind, "list"))
			default:
				isOrNone(t, n, has(kind, "list"))
			}
		}
	})
}

// 23.1: L whose nodes are none, or do not rise, or that has a point that is none, or the one at infinity.
func TestNoLists(t *testing.T) {
	lists := [][]bind.Pair{
		pairs(0), pairs(11), pairs(-1), pairs(257), pairs(math.MinInt), pairs(1<<32 + 1), pairs(1, 1), pairs(2, 1), pairs(0, 1),
		pairs(9, 11), pairs(1, 3, 2), pairs(1, 2, 3, 4, 5, 6, 7, 8, 9, 10, 10), pairs(1, 2, 3, 4, 5, 6, 7, 8, 9, 10, 11),
	}
	for _, bad := range append([]api.Point{infinity}, noPoints...) {
		lists = append(lists,
			[]bind.Pair{{Node: 4, D: bad, E: g}}, []bind.Pair{{Node: 4, D: g, E: bad}},
			[]bind.Pair{{Node: 1, D: g, E: g}, {Node: 4, D: g, E: bad}}, []bind.Pair{{Node: 1, D: bad, E: g}, {Node: 4, D: g, E: g}},
		)
	}
	kinds(func(kind int) {
		for _, l := range lists {
			n := plain(kind)
			n.L = l
			isNone(t, n)
		}
	})
}

// 23.1: Sig whose R is a point, also the one at infinity, and whose Z is a scalar, whatever it holds for; and others.
func TestSigs(t *testing.T) {
	var good, bad []api.Sig
	for _, r := range []api.Point{g, minus, twice, infinity} {
		for _, z := range scalars {
			good = append(good, api.Sig{R: r, Z: z})
		}
		for _, z := range noScalars {
			bad = append(bad, api.Sig{R: r, Z: z})
		}
	}
	for _, r := range noPoints {
		bad = append(bad, api.Sig{R: r, Z: api.Num{7}}, api.Sig{R: r})
	}
	kinds(func(kind int) {
		n := plain(kind)
		for _, n.Sig = range good {
			isOrNone(t, n, has(kind, "sig"))
		}
		for _, n.Sig = range bad {
			if n.Sig != (api.Sig{}) || has(kind, "sig") {
				isNone(t, n)
			}
		}
	})
}

// spoil are the bytes of a note, one item of which is another one.
func spoil(n note.Note, at int, item string) string {
	items := itemsOf(n)
	items[at] = item
	return packed(30+n.Kind, items...)
}

// 23.1: bytes of another kind, of another number of items, with a byte more or less at the end, or anywhere cut.
func TestOtherBytes(t *testing.T) {
	kinds(func(kind int) {
		n := plain(kind)
		whole, items := bytesOf(n), itemsOf(n)
		for _, other := range []int{0, 1, 30, 38, 20, 63, 64, 128 + 30 + kind, kind} {
			areNone(t, packed(other, items...))
		}
		areNone(t, packed(30+kind))
		for count := range items {
			areNone(t, packed(30+kind, items[:count]...))
			areNone(t, packed(30+kind, items[5-count:]...))
		}
		for _, more := range []string{"", "m", items[0]} {
			areNone(t, packed(30+kind, append(slices.Clone(items), more)...))
			areNone(t, packed(30+kind, append([]string{more}, items...)...))
		}
		for end := range whole {
			areNone(t, whole[:end])
		}
		for _, more := range []string{"\x00", "m", whole, string(make([]byte, 20000))} {
			areNone(t, whole+more)
		}
		areNone(t, "\x00"+whole)
		areNone(t, whole[1:])
	})
}

// 23.1: numbers of other counts, and such as are none.
func TestOtherNumbers(t *testing.T) {
	kinds(func(kind int) {
		n := plain(kind)
		numbers := eights(n.View, n.Origin, n.ID, n.Session)
		for _, other := range []string{
			"", numbers[:8], numbers[:24], numbers[8:], numbers + eights(0), eights(0) + numbers, numbers[:31], numbers + "\x00",
			numbers[1:], "\x00" + numbers,
		} {
			areNone(t, spoil(n, 0, other))
		}
		for at := range 4 {
			for _, high := range []byte{0x01, 0x80, 0xff} {
				other := []byte(numbers)
				other[8*at] = high
				areNone(t, spoil(n, 0, string(other)))
			}
		}
	})
}

// 23.1: an item where the kind has none, and none where it has one.
func TestOtherItems(t *testing.T) {
	others := []string{2: string(make([]byte, 32)), 3: listBytes(pairs(4)), 4: pointBytes(g) + string(make([]byte, 32))}
	kinds(func(kind int) {
		n := plain(kind)
		items := itemsOf(n)
		for at := 2; at < 5; at++ {
			for _, other := range []string{"\x00", "m", others[at], string(make([]byte, 65)), packed(20)} {
				if items[at] == "" {
					areNone(t, spoil(n, at, other))
				}
			}
			if items[at] != "" {
				areNone(t, spoil(n, at, ""))
				areNone(t, spoil(n, at, items[at]+"\x00"))
				areNone(t, spoil(n, at, items[at][:len(items[at])-1]))
				areNone(t, spoil(n, at, items[at]+items[at]))
			}
		}
	})
}

// 23.1: items that are of the right length, and none.
func TestWrongItems(t *testing.T) {
	for _, z := range noScalars {
		areNone(t, spoil(plain(share), 2, string(numBytes(z))))
		areNone(t, spoil(plain(final), 4, pointBytes(g)+string(numBytes(z))))
	}
	code := pointBytes(g)
	for _, bad := range []string{"\x04" + code[1:], "\x01" + code[1:], "\x00" + code[1:], "\x02" + string(numBytes(p)), "\x02" + string(numBytes(api.Num{5}))} {
		areNone(t, spoil(plain(final), 4, bad+string(make([]byte, 32))))
		for _, kind := range []int{offer, open, share} {
			areNone(t, spoil(plain(kind), 3, packed(20, "\x04"+bad+code)))
			areNone(t, spoil(plain(kind), 3, packed(20, "\x04"+code+bad)))
		}
	}
	nought := string(make([]byte, 33))
	for _, kind := range []int{offer, open, share} {
		for _, list := range []string{
			packed(20), packed(21, "\x04"+code+code), packed(20, "\x04"+code), packed(20, "\x00"+code+code), packed(20, "\x0b"+code+code),
			packed(20, "\x04"+nought+code), packed(20, "\x04"+code+nought), packed(20, "\x04"+code+code, "\x04"+code+code),
			packed(20, "\x04"+code+code, "\x03"+code+code),
		} {
			areNone(t, spoil(plain(kind), 3, list))
		}
		two := spoil(plain(kind), 3, packed(20, "\x03"+code+code, "\x04"+code+code))
		if _, e := note.Decode(two); (e == api.OK) != (kind == open) {
			t.Errorf("kind %d, two pairs: %v", kind, e)
		}
	}
}
