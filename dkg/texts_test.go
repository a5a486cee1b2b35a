package dkg_test

import (
	"slices"
	"strings"
	"testing"

	"wardmote/api"
	"wardmote/dkg"
	"wardmote/limb"
)

// A pair is a node of four and its plain one, which hear the same.
type pair struct {
	x     *dkg.Node
	p     *plain
	heard [][][]string // what there is to be heard of nodes that do as told
}

// ahead is node 1 of four, ahead of a round, that heard what is handed in (by round), and else what there is to be heard.
func ahead(t *testing.T, heard [][][]string, round int, told map[int][]string) *pair {
	t.Helper()
	a := &pair{begin(t, 4, 1, 1, seeds[0]), &plain{n: 4, f: 1, self: 1, seed: seeds[0]}, heard}
	for a.x.Round() < round {
		a.hears(t, told[a.x.Round()])
	}
	return a
}

// hears has both hear texts; of nil what there is to be heard.
func (a *pair) hears(t *testing.T, told []string) {
	t.Helper()
	if told == nil {
		told = a.heard[a.x.Round()][0]
	}
	hears(t, a.x, told)
	a.p.told = append(a.p.told, told)
	like(t, a.x, a.p)
}

// items are those that it sends a node now.
func (a *pair) items(to int) []string {
	_, items, _ := unpack(a.x.Send()[to-1])
	return items
}

// among are the texts of a round, with one instead of a node's.
func among(heard [][][]string, round, node int, text string) []string {
	out := slices.Clone(heard[round][0])
	out[node-1] = text
	return out
}

// misfits are no texts of a kind, though they have its items, or nearly: empty, of another kind, cut, longer.
func misfits(text string) []string {
	kind, items, _ := unpack(text)
	out := []string{"", "\x00", text[:1], text[:2], text + "\x00", text + text, strings.Repeat("\x10", 20001)}
	if len(text) > 2 {
		out = append(out, text[:len(text)-1])
	}
	for other := range 20 {
		if other != kind {
			out = append(out, pack(other, items...))
		}
	}
	out = append(out, pack(kind+64, items...), pack(kind, append(slices.Clone(items), slices.Repeat([]string{""}, 41)...)...))
	return append(out, pack(kind, append(slices.Clone(items), strings.Repeat("a", 8001))...))
}

// miscounts are no texts of a kind with a fixed number of items: one fewer, and more.
func miscounts(text string) []string {
	kind, items, _ := unpack(text)
	return append(misfits(text), pack(kind), pack(kind, items[1:]...), pack(kind, items[:len(items)-1]...),
		pack(kind, append(slices.Clone(items), "")...), pack(kind, append(slices.Clone(items), items...)...))
}

// q is Q as bytes, and lastQ the scalar ahead of it.
const (
	highQ = "\xff\xff\xff\xff\xff\xff\xff\xff\xff\xff\xff\xff\xff\xff\xff\xfe"
	lowQ  = "\xba\xae\xdc\xe6\xaf\x48\xa0\x3b\xbf\xd2\x5e\x8c\xd0\x36\x41"
	q     = highQ + lowQ + "\x41"
	lastQ = highQ + lowQ + "\x40"
)

// Round 0: what is no text of it, and what no dealer deals: other counts of points, what is no point, what is no scalar.
func TestRound0Nothing(t *testing.T) {
	heard := history(t, 4, 1)
	code, s := commit(own), limb.Bytes(valueOf(own, 1))
	none, great := "\x03"+limb.Bytes(api.Num{5}), "\x02"+strings.Repeat("\xff", 32)
	wrong := miscounts(pack(10, code, s))
	for _, c := range []string{
		"", "\x00", code[:1], code[:34], code[:66], code + "\x00", code[1:], "\x01" + code[1:], "\x03" + code[1:], commit(own[:1]),
		commit(line("s", 3)), commit(line("s", 10)), commit(line("s", 11)), "\x02" + none + code[1:34], "\x02" + code[1:34] + none,
		"\x02" + great + great, "\x02" + strings.Repeat("\x04", 66), "\x02" + strings.Repeat("\x00", 65) + "\x01", s, code + code,
	} {
		wrong = append(wrong, pack(10, c, s))
	}
	for _, c := range []string{"", "\x00", s[1:], s + "\x00", "\x00" + s, q, highQ + lowQ + "\x42", strings.Repeat("\xff", 32), code} {
		wrong = append(wrong, pack(10, code, c))
	}
	wrong = append(wrong, pack(10, s, code))
	for _, text := range wrong {
		a := ahead(t, heard, 1, map[int][]string{0: among(heard, 0, 4, text)})
		if items := a.items(2); items[3] != "" || items[0] != commit(line("a", 2)) || items[2] != commit(line("c", 2)) {
			t.Fatalf("dealt %x: %x", text, items)
		}
		a.hears(t, nil)
		a.hears(t, nil)
		if got := a.items(1); !slices.Equal(got, []string{ints(4)}) {
			t.Fatalf("dealt %x: complaints %x", text, got)
		}
	}
}

// Round 0: what is dealt, though the scalar may be no share, and the points may be at infinity.
func TestRound0Something(t *testing.T) {
	heard := history(t, 4, 1)
	code, s := commit(own), limb.Bytes(valueOf(own, 1))
	for _, c := range []struct {
		code, s string
		right   bool
	}{
		{code, s, true}, {code, limb.Bytes(api.Num{}), false}, {code, lastQ, false}, {code, limb.Bytes(valueOf(own, 2)), false},
		{commit(other), s, true}, {commit(other), limb.Bytes(valueOf(other, 1)), false}, {commit([]api.Num{{}, {}}), s, true},
		{commit([]api.Num{{}, {}}), limb.Bytes(api.Num{}), false}, {commit([]api.Num{{1}, {}}), lastQ, false},
	} {
		a := ahead(t, heard, 1, map[int][]string{0: among(heard, 0, 4, pack(10, c.code, c.s))})
		if items := a.items(2); items[3] != c.code {
			t.Fatalf("dealt %x: %x", c.code, items)
		}
		a.hears(t, nil)
		a.hears(t, nil)
		want := ints(4)
		if c.right {
			want = ""
		}
		if got := a.items(1); !slices.Equal(got, []string{want}) {
			t.Fatalf("dealt %x: complaints %x", c.code, got)
		}
	}
}

// Round 1: one text is what just n - f hang on: it counts, item by item, or is none, and then nothing of it counts.
func TestRound1(t *testing.T) {
	heard := history(t, 4, 1)
	text := heard[1][0][3]
	echo := func(pivot string) []string {
		a := ahead(t, heard, 2, map[int][]string{1: {heard[1][0][0], "", heard[1][0][2], pivot}})
		return a.items(3)
	}
	_, codes, _ := unpack(text)
	var marks []string
	for _, code := range codes {
		marks = append(marks, markOf(code))
	}
	if got := echo(text); !slices.Equal(got, marks) {
		t.Fatalf("marks %x", got)
	}
	for _, wrong := range miscounts(text) {
		if got := echo(wrong); !slices.Equal(got, []string{"", "", "", ""}) {
			t.Fatalf("told %x: marks %x", wrong, got)
		}
	}
	for at := range 4 {
		for _, item := range []string{"", "a", codes[at] + "\x00", codes[at][:66], commit(other), strings.Repeat("a", 8000)} {
			want := slices.Clone(marks)
			want[at] = ""
			if got := echo(instead(text, at, item)); !slices.Equal(got, want) {
				t.Fatalf("item %d is %x: marks %x", at, item, got)
			}
		}
	}
}

// Round 1: a text that is no commitments is echoed and marked as any other one; but there are no commitments of it.
func TestNoCommitments(t *testing.T) {
	heard := history(t, 4, 1)
	for _, item := range []string{
		"a", commit(own[:1]), commit(line("s", 3)), commit(own) + "\x00", commit(own)[:66], "\x02" + strings.Repeat("\xff", 66),
	} {
		var told []string
		for _, text := range heard[1][0] {
			told = append(told, instead(text, 1, item))
		}
		a := ahead(t, heard, 2, map[int][]string{1: told})
		if got := a.items(3)[1]; got != markOf(item) {
			t.Fatalf("%x: mark %x", item, got)
		}
		a.hears(t, slices.Repeat([]string{a.x.Send()[0]}, 4))
		if got := a.items(3); !slices.Equal(got, []string{ints(2)}) {
			t.Fatalf("%x: complaints %x", item, got)
		}
		for a.x.Round() < 6 {
			a.hears(t, nil)
		}
		if got := a.items(3); !slices.Equal(got, []string{"\x01\x00\x01\x01"}) {
			t.Fatalf("%x: votes %x", item, got)
		}
	}
}

// Round 2: one text is what just f + 1 hang on, by which a mark is ready; and what just n - f hang on, by which it is sure.
func TestRound2(t *testing.T) {
	heard := history(t, 4, 1)
	text := heard[2][0][3]
	after := func(round int, told ...string) []string {
		return ahead(t, heard, round, map[int][]string{2: told}).items(2)
	}
	ready := func(pivot string) []string { return after(3, text, "", "", pivot) }
	sure := func(pivot string) []string { return after(6, text, pivot, text, "") }
	if got := ready(text); !slices.Equal(got, []string{""}) {
		t.Fatalf("complaints %x", got)
	}
	if got := sure(text); !slices.Equal(got, []string{"\x01\x01\x01\x01"}) {
		t.Fatalf("votes %x", got)
	}
	for _, wrong := range miscounts(text) {
		if got := ready(wrong); !slices.Equal(got, []string{ints(1, 2, 3, 4)}) {
			t.Fatalf("told %x: complaints %x", wrong, got)
		}
		if got := sure(wrong); !slices.Equal(got, []string{"\x00\x00\x00\x00"}) {
			t.Fatalf("told %x: votes %x", wrong, got)
		}
	}
	for at := range 4 {
		votes := []byte{1, 1, 1, 1}
		votes[at] = 0
		for _, item := range []string{"", "a", markOf("a"), markOf(""), strings.Repeat("a", 8000)} {
			if got := ready(instead(text, at, item)); !slices.Equal(got, []string{ints(uint64(at + 1))}) {
				t.Fatalf("item %d is %x: complaints %x", at, item, got)
			}
			if got := sure(instead(text, at, item)); !slices.Equal(got, []string{string(votes)}) {
				t.Fatalf("item %d is %x: votes %x", at, item, got)
			}
		}
	}
}

// Round 2: two marks that f + 1 told each: none is ready. A mark of a text that nobody told: there are no commitments,
// however sure it is. A mark of a text that only one node told: they are found.
func TestMarksApart(t *testing.T) {
	heard := history(t, 4, 1)
	text := heard[2][0][0]
	wrong := instead(text, 2, markOf(commit(other)))
	complains := func(one []string, two ...string) []string {
		return ahead(t, heard, 3, map[int][]string{1: one, 2: two}).items(4)
	}
	told := among(heard, 1, 2, instead(heard[1][0][1], 2, commit(other)))
	for _, c := range []struct {
		one, two []string
		want     string
	}{
		{nil, []string{text, text, wrong, wrong}, ints(3)}, {told, []string{text, wrong, text, wrong}, ints(3)},
		{nil, []string{text, text, wrong, text}, ""}, {nil, []string{text, text, wrong, ""}, ""},
		{nil, []string{wrong, wrong, wrong, wrong}, ints(3)}, {nil, []string{wrong, wrong, "", text}, ints(3)},
		{[]string{"", "", heard[1][0][2], ""}, []string{text, "", text, ""}, ""},
		{[]string{"", "", "", ""}, []string{text, text, text, text}, ints(1, 2, 3, 4)},
	} {
		if got := complains(c.one, c.two...); !slices.Equal(got, []string{c.want}) {
			t.Errorf("marks %x: complaints %x, not %x", c.two, got, c.want)
		}
	}
	// What it was dealt is no share by the other one's commitments; so it complains, and votes for whom it is sure of.
	if got := complains(told, wrong, wrong, wrong, text); !slices.Equal(got, []string{ints(3)}) {
		t.Errorf("complaints %x", got)
	}
	a := ahead(t, heard, 6, map[int][]string{1: told, 2: {wrong, wrong, wrong, text}})
	if got := a.items(4); !slices.Equal(got, []string{"\x01\x01\x01\x01"}) {
		t.Errorf("votes %x", got)
	}
	a = ahead(t, heard, 6, map[int][]string{2: {wrong, wrong, wrong, wrong}})
	if got := a.items(4); !slices.Equal(got, []string{"\x01\x01\x00\x01"}) {
		t.Errorf("votes %x", got)
	}
}

// Round 3: what complaints are, and what is none: not nodes, not rising, not numbers.
func TestRound3(t *testing.T) {
	heard := history(t, 4, 1)
	shows := func(pivot string) []string {
		return ahead(t, heard, 4, map[int][]string{3: among(heard, 3, 4, pivot)}).items(2)
	}
	item := showing(4, valueOf(line(seeds[0], 2), 4))
	for _, named := range [][]uint64{{1}, {1, 2}, {1, 4}, {1, 2, 3, 4}} {
		if got := shows(pack(13, ints(named...))); !slices.Equal(got, []string{item}) {
			t.Errorf("complaints %v: %x", named, got)
		}
	}
	wrong := append(miscounts(pack(13, ints(1))), pack(13, ""))
	for _, named := range [][]uint64{
		{}, {2}, {2, 3, 4}, {0}, {0, 1}, {1, 5}, {1, 10}, {1, 11}, {1, 1}, {1, 2, 2}, {2, 1}, {1, 3, 2}, {1, 2, 3, 4, 5},
		{1, 1<<63 - 1}, {1, 1 << 63}, {1, 1<<64 - 1}, {1, 1<<32 + 2}, {1<<32 + 1}, {1 << 56}, {257},
	} {
		wrong = append(wrong, pack(13, ints(named...)))
	}
	for _, text := range []string{"\x01", ints(1) + "\x00", ints(1)[:7], "\x00" + ints(1), ints(1) + ints(2)[:7]} {
		wrong = append(wrong, pack(13, text))
	}
	for _, text := range wrong {
		if got := shows(text); len(got) != 0 {
			t.Errorf("told %x: %x", text, got)
		}
	}
	a := ahead(t, heard, 4, map[int][]string{3: slices.Repeat([]string{pack(13, ints(1, 3))}, 4)})
	var want []string
	for node := 1; node <= 4; node++ {
		want = append(want, showing(node, valueOf(line(seeds[0], 2), node)))
	}
	if got := a.items(3); !slices.Equal(got, want) {
		t.Errorf("all complained: %x", got)
	}
}

// Round 4: what dealer 3 shows of node 2, who complained, and what is none of it; whether it votes for that dealer.
func TestRound4(t *testing.T) {
	heard := history(t, 4, 1)
	dealt := line(seeds[2], 2)
	right, wrong := showing(2, valueOf(dealt, 2)), showing(2, valueOf(dealt, 3))
	after := func(text string) ([]string, string) {
		told := map[int][]string{3: among(heard, 3, 2, pack(13, ints(3))), 4: among(heard, 4, 3, text)}
		a := ahead(t, heard, 5, told)
		passed := a.items(2)
		for _, to := range []int{1, 3, 4} {
			if got := a.items(to); len(got) != 0 {
				t.Fatalf("shown %x: to %d: %x", text, to, got)
			}
		}
		a.hears(t, nil)
		return passed, a.items(1)[0]
	}
	good := [][]string{
		{right}, {right, right}, {wrong, right}, {right, wrong}, {"", right}, {right[:32], right + "\x00", right}, {"\x02" + q, right},
		{showing(1, valueOf(dealt, 1)), right, showing(4, valueOf(dealt, 4))}, {showing(0, valueOf(dealt, 2)), right},
		{showing(11, api.Num{}), showing(255, api.Num{}), right}, append(slices.Repeat([]string{wrong}, 39), right),
		{strings.Repeat("a", 8000), right}, {"\x02" + strings.Repeat("\xff", 32), "\x05", right},
	}
	for _, items := range good {
		if passed, votes := after(pack(14, items...)); !slices.Equal(passed, []string{"\x03" + right[1:]}) || votes != "\x01\x01\x01\x01" {
			t.Errorf("shown %x: %x, votes %x", items, passed, votes)
		}
	}
	texts := misfits(pack(14, right))
	for _, items := range [][]string{
		{}, {wrong}, {wrong, wrong}, {""}, {"\x02"}, {right[1:]}, {right[:32]}, {right + "\x00"}, {right + right}, {"\x02" + q},
		{"\x02" + strings.Repeat("\xff", 32)}, {"\x00" + right[1:]}, {"\x01" + right[1:]}, {"\x03" + right[1:]}, {"\x04" + right[1:]},
		{"\x05" + right[1:]}, {"\x0a" + right[1:]}, {"\x0b" + right[1:]}, {"\xff" + right[1:]}, {showing(2, api.Num{})},
		{showing(1, valueOf(dealt, 1)), showing(3, valueOf(dealt, 3)), showing(4, valueOf(dealt, 4))}, {right[:17], right[17:]},
		{showing(2, valueOf(line(seeds[1], 2), 2))}, {"\x02" + right}, {"\x00" + right},
	} {
		texts = append(texts, pack(14, items...))
	}
	for _, text := range texts {
		if passed, votes := after(text); len(passed) != 0 || votes != "\x01\x01\x00\x01" {
			t.Errorf("shown %x: %x, votes %x", text, passed, votes)
		}
	}
}

// Round 4: of several that complained all must be shown; who did not complain is shown nothing; another dealer's text
// shows nothing of this one.
func TestShownOfAll(t *testing.T) {
	heard := history(t, 4, 1)
	dealt := line(seeds[2], 2)
	item := func(node int) string { return showing(node, valueOf(dealt, node)) }
	complaints := among(heard, 3, 2, pack(13, ints(3)))
	complaints[3] = pack(13, ints(3, 4))
	for _, c := range []struct {
		three, four []string
		votes       string
	}{
		{[]string{item(2), item(4)}, nil, "\x01\x01\x01\x00"}, {[]string{item(4), item(2)}, nil, "\x01\x01\x01\x00"},
		{[]string{item(2)}, nil, "\x01\x01\x00\x00"}, {[]string{item(4)}, nil, "\x01\x01\x00\x00"},
		{[]string{item(2)}, []string{item(4)}, "\x01\x01\x00\x00"}, {nil, []string{item(2), item(4)}, "\x01\x01\x00\x00"},
		{[]string{item(2), item(4)}, []string{showing(4, valueOf(own, 4))}, "\x01\x01\x01\x01"},
		{[]string{item(1), item(3)}, []string{showing(4, valueOf(own, 4))}, "\x01\x01\x00\x01"},
	} {
		shown := among(heard, 4, 3, pack(14, c.three...))
		shown[3] = pack(14, c.four...)
		a := ahead(t, heard, 6, map[int][]string{3: complaints, 4: shown})
		if got := a.items(2)[0]; got != c.votes {
			t.Errorf("shown %x, %x: votes %x", c.three, c.four, got)
		}
	}
}

// all is a text with which all tell the same word of all dealers.
func all(word byte) []string {
	return slices.Repeat([]string{pack(16, string(slices.Repeat([]byte{word}, 4)))}, 4)
}

// votesAll has node 1 hear in all rounds from 6 on that all vote 1 for all.
func (a *pair) votesAll(t *testing.T) {
	t.Helper()
	for a.x.Round() < 12 {
		a.hears(t, all(1))
	}
}

// hasShare looks for whether node 1 has a key, of its shares of all dealers.
func (a *pair) hasShare(t *testing.T, what string, is bool) {
	t.Helper()
	a.votesAll(t)
	got, has := a.x.Key()
	if has != is {
		t.Fatalf("%s: Key: %v, %v", what, got, has)
	}
	sum := api.Num{}
	for _, seed := range seeds[:4] {
		sum = scalarOf(bigOf(sum).Add(bigOf(sum), bigOf(valueOf(line(seed, 2), 1))))
	}
	if is && (got.Share != sum || !slices.Equal(got.Dealers, []int{1, 2, 3, 4})) {
		t.Fatalf("%s: Key: %v", what, got)
	}
}

// Round 4: a node's own share, if it had none, if it is heard to have complained; also one that had its share.
func TestOwnShown(t *testing.T) {
	heard := history(t, 4, 1)
	item := showing(1, valueOf(line(seeds[2], 2), 1))
	for _, c := range []struct {
		name               string
		dealt, said, shown string
		is                 bool
	}{
		{"lacks it, is shown it", "", pack(13, ints(3)), pack(14, item), true},
		{"lacks it, is not heard", "", pack(13, ""), pack(14, item), false},
		{"lacks it, is not shown it", "", pack(13, ints(3)), pack(14), false},
		{"lacks it, is shown another one", "", pack(13, ints(3)), pack(14, showing(1, api.Num{7})), false},
		{"has it, is shown it", heard[0][0][2], pack(13, ints(3)), pack(14, item), true},
		{"has it, is not shown it", heard[0][0][2], pack(13, ints(3)), pack(14), true},
	} {
		a := ahead(t, heard, 6, map[int][]string{
			0: among(heard, 0, 3, c.dealt), 3: among(heard, 3, 1, c.said), 4: among(heard, 4, 3, c.shown),
		})
		a.hasShare(t, c.name, c.is)
	}
}

// Round 5: a node that lacks a share is told it, by some rightly and by some wrongly.
func TestRound5(t *testing.T) {
	heard := history(t, 4, 1)
	right := showing(3, valueOf(line(seeds[2], 2), 1))
	wrong := showing(3, valueOf(line(seeds[2], 2), 2))
	lacks := func(what string, is bool, told ...string) {
		t.Helper()
		a := ahead(t, heard, 5, map[int][]string{0: among(heard, 0, 3, ""), 3: among(heard, 3, 1, "")})
		a.hears(t, told)
		a.hasShare(t, what, is)
	}
	good, bad, none := pack(15, right), pack(15, wrong), pack(15)
	for at := range 4 {
		for _, rest := range []string{none, bad, "", pack(15, right[1:])} {
			told := slices.Repeat([]string{rest}, 4)
			lacks("none rightly", false, told...)
			told[at] = good
			lacks("one rightly", true, told...)
			told[at] = pack(15, wrong, "", "\x03", "\x03"+q, showing(0, api.Num{}), showing(1, api.Num{}), showing(200, api.Num{}), right, wrong)
			lacks("one rightly, among others", true, told...)
		}
	}
	lacks("all rightly", true, good, good, good, good)
	texts := misfits(good)
	for _, item := range []string{
		"", "\x03", right[:32], right + "\x00", right[1:], "\x03" + q, "\x00" + right[1:], "\x01" + right[1:], "\x02" + right[1:],
		"\x04" + right[1:], "\x05" + right[1:], "\x0b" + right[1:], "\xff" + right[1:], "\x03" + strings.Repeat("\xff", 32),
	} {
		texts = append(texts, pack(15, item))
	}
	for _, text := range texts {
		lacks(text, false, none, text, none, bad)
	}
}

// Round 5: what is told of a dealer whose share it has, or of whom there are no commitments, changes nothing.
func TestRound5NotAsked(t *testing.T) {
	heard := history(t, 4, 1)
	told := slices.Repeat([]string{pack(15, showing(1, api.Num{1}), showing(2, api.Num{2}), showing(3, api.Num{3}))}, 4)
	ahead(t, heard, 6, map[int][]string{5: told}).hasShare(t, "has all", true)
	right := slices.Repeat([]string{pack(15, showing(3, valueOf(line(seeds[2], 2), 1)))}, 4)
	var marks []string
	for _, text := range heard[2][0] {
		marks = append(marks, instead(text, 2, ""))
	}
	ahead(t, heard, 6, map[int][]string{2: marks, 5: right}).hasShare(t, "no commitments", false)
	ahead(t, heard, 6, map[int][]string{5: right}).hasShare(t, "told again", true)
}

// Rounds 6 on: one text is what just n - f hang on: its words count, dealer by dealer; a text that is none is 2 for all, and
// so is a byte that is no word, for that dealer.
func TestRound6(t *testing.T) {
	heard := history(t, 4, 1)
	votes := func(text string) []byte {
		a := ahead(t, heard, 6, nil)
		a.hears(t, []string{pack(16, "\x01\x00\x01\x00"), pack(16, "\x01\x00\x01\x00"), "", text})
		return []byte(a.items(2)[0])
	}
	right := pack(16, "\x01\x00\x01\x00")
	if got := votes(right); !slices.Equal(got, []byte{1, 0, 1, 0}) {
		t.Fatalf("words %v", got)
	}
	texts := miscounts(right)
	for _, words := range []string{"", "\x01", "\x01\x00\x01", "\x01\x00\x01\x00\x01", strings.Repeat("\x01\x00", 4)} {
		texts = append(texts, pack(16, words))
	}
	for _, text := range texts {
		if got := votes(text); !slices.Equal(got, []byte{2, 2, 2, 2}) {
			t.Fatalf("told %x: words %v", text, got)
		}
	}
	for _, word := range []byte{0, 1, 2, 3, 4, 10, 127, 128, 254, 255} {
		for at := range 4 {
			words, want := []byte{1, 0, 1, 0}, []byte{1, 0, 1, 0}
			if words[at] == word {
				continue
			}
			words[at], want[at] = word, 2
			if got := votes(pack(16, string(words))); !slices.Equal(got, want) {
				t.Fatalf("told %v: words %v", words, got)
			}
		}
	}
}

// Rounds 6 on: each dealer's words are of their own, through all rounds, also where its vote is another one; what the king
// tells counts where it should.
func TestWordsByDealer(t *testing.T) {
	heard := history(t, 4, 1)
	for start := range 81 {
		told := []byte{byte(start % 3), byte(start / 3 % 3), byte(start / 9 % 3), byte(start / 27)}
		a := ahead(t, heard, 6, nil)
		for a.x.Round() < 12 {
			a.hears(t, slices.Repeat([]string{pack(16, string(told))}, 4))
		}
		var want []int
		for i, word := range told {
			if word != 0 {
				want = append(want, i+1)
			}
		}
		if key, is := a.x.Key(); is != (want != nil) || !slices.Equal(key.Dealers, want) {
			t.Fatalf("told %v: dealers %v, %v", told, key.Dealers, is)
		}
	}
}

// 17.1: there is no key, if it lacks commitments, or a share, of a dealer of value 1; of one of value 0 it may.
func TestKeyLacks(t *testing.T) {
	heard := history(t, 4, 1)
	nothing := make([]string, 4)
	lacksPoints := map[int][]string{1: nothing}
	lacksShares := map[int][]string{0: nothing, 3: nothing, 5: nothing}
	lacksOne := map[int][]string{0: among(heard, 0, 2, ""), 3: nothing, 5: nothing}
	for _, c := range []struct {
		told  map[int][]string
		words string
		want  []int
	}{
		{nil, "\x01\x01\x01\x01", []int{1, 2, 3, 4}}, {nil, "\x00\x00\x00\x00", nil}, {nil, "\x00\x00\x00\x01", []int{4}},
		{lacksPoints, "\x01\x01\x01\x01", nil}, {lacksPoints, "\x00\x01\x00\x00", nil}, {lacksPoints, "\x00\x00\x00\x00", nil},
		{lacksShares, "\x01\x01\x01\x01", nil}, {lacksShares, "\x00\x01\x00\x00", nil}, {lacksShares, "\x00\x00\x00\x00", nil},
		{lacksOne, "\x01\x01\x01\x01", nil}, {lacksOne, "\x00\x01\x00\x00", nil}, {lacksOne, "\x01\x00\x01\x01", []int{1, 3, 4}},
		{lacksOne, "\x00\x00\x01\x00", []int{3}}, {lacksOne, "\x00\x00\x00\x00", nil},
	} {
		a := ahead(t, heard, 6, c.told)
		for a.x.Round() < 12 {
			hasKey(t, a.x, dkg.Key{}, false)
			a.hears(t, slices.Repeat([]string{pack(16, c.words)}, 4))
		}
		if key, is := a.x.Key(); is != (c.want != nil) || !slices.Equal(key.Dealers, c.want) {
			t.Errorf("words %x: %v, %v", c.words, key, is)
		}
	}
}
