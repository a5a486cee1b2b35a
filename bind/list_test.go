package bind_test

import (
	"encoding/hex"
	"math"
	"math/rand"
	"slices"
	"strings"
	"testing"

	"wardmote/api"
	"wardmote/bind"
	"wardmote/limb"
)

// noNodes are no node's number, also such as are one mod 2^8, 2^32.
var noNodes = []int{
	0, -1, -10, 11, 12, 255, 256, 257, 266, 1 << 32, 1<<32 + 1, -255, 1 - 1<<32, math.MinInt, math.MinInt + 1, math.MaxInt,
}

// refuses looks for the error of Check and of Encode.
func refuses(t *testing.T, l []bind.Pair, want api.Errno) {
	t.Helper()
	tells(t, "Check", bind.Check(l), want)
	if s, e := bind.Encode(l); s != "" || e != want {
		t.Fatalf("Encode: %x, %v, not %v", s, e, want)
	}
}

// refusesText looks for the error of Decode.
func refusesText(t *testing.T, what, s string, want api.Errno) {
	t.Helper()
	if l, e := bind.Decode(s); len(l) != 0 || e != want {
		t.Fatalf("%s: Decode: %v, %v, not %v", what, l, e, want)
	}
}

// 18.1: the document's example; and bytes that another program wrote.
func TestKnownBytes(t *testing.T) {
	one := bind.Pair{Node: 7, D: g, E: timesG(api.Num{2})}
	s, e := bind.Encode([]bind.Pair{one})
	if len(s) != 71 || !strings.HasPrefix(s, "\x14\x01\x00\x43\x07\x02"+limb.Bytes(g.X)) || e != api.OK {
		t.Errorf("Encode of one pair: %x, %v", s, e)
	}
	two := []bind.Pair{
		{Node: 2, D: timesG(api.Num{3}), E: timesG(api.Num{7})}, {Node: 10, D: timesG(api.Num{5}), E: timesG(api.Num{11})},
	}
	want := "14020043" + "02" + "02f9308a019258c31049344f85f89d5229b531c845836f99b08601f113bce036f9" +
		"025cbdf0646e5db4eaa398f365f2ea7a0e3d419b7e0330e39ce92bddedcac4f9bc" +
		"0043" + "0a" + "022f8bde4d1a07209355b4a7250a5c5128e88b84bddc619ab7cba8d569b240efe4" +
		"03774ae7f858a9411e5ef4246b70c65aac5649980be5c17891bbec17895da008cb"
	if s, e := bind.Encode(two); hex.EncodeToString([]byte(s)) != want || e != api.OK {
		t.Errorf("Encode of two pairs: %x, %v", s, e)
	}
}

// 18.1, 18.3: lists of 1 to MaxNodes pairs, of any nodes that rise: encoded so, and decoded again.
func TestEncodeAndDecode(t *testing.T) {
	source := rand.New(rand.NewSource(1))
	for count := 1; count <= api.MaxNodes; count++ {
		for range 8 {
			l, _ := listOf(source, count)
			tells(t, "Check", bind.Check(l), api.OK)
			s, e := bind.Encode(l)
			if s != bytesOf(l) || len(s) != 2+69*count || e != api.OK {
				t.Fatalf("Encode of %v: %x, %v", l, s, e)
			}
			if got, e := bind.Decode(s); !slices.Equal(got, l) || e != api.OK {
				t.Fatalf("Decode: %v, %v, not %v", got, e, l)
			}
		}
	}
}

// 18.1: a pair alone, of each node; of two, each that rise, and no others.
func TestNodes(t *testing.T) {
	for a := range 13 {
		one := []bind.Pair{{Node: a, D: g, E: g}}
		want := api.OK
		if a < 1 || a > 10 {
			want = api.ErrArg
		}
		tells(t, "Check", bind.Check(one), want)
		for b := range 13 {
			want := api.OK
			if a < 1 || b > 10 || a >= b {
				want = api.ErrArg
			}
			two := append(slices.Clone(one), bind.Pair{Node: b, D: g, E: withX(1)})
			tells(t, "Check", bind.Check(two), want)
			if got, e := bind.Decode(bytesOf(two)); e != want || e == api.OK && !slices.Equal(got, two) {
				t.Fatalf("Decode of nodes %d, %d: %v, %v", a, b, got, e)
			}
		}
	}
}

// 18.1: no pair, more than MaxNodes, nodes that are none, alike or falling ones: ErrArg, wherever it is, and ahead of
// points that are none.
func TestRefusesNodes(t *testing.T) {
	for _, d := range append([]api.Point{g}, refused...) {
		refuses(t, nil, api.ErrArg)
		refuses(t, []bind.Pair{}, api.ErrArg)
		for _, count := range []int{11, 12, 40, 41, 64, 65, 300} {
			refuses(t, with(plainList(count), 0, bind.Pair{Node: 1, D: d, E: g}), api.ErrArg)
		}
		for count := 1; count <= api.MaxNodes; count++ {
			l := with(plainList(count), 0, bind.Pair{Node: 1, D: g, E: d})
			for at := range count {
				for _, node := range noNodes {
					refuses(t, with(l, at, bind.Pair{Node: node, D: d, E: g}), api.ErrArg)
				}
				if at > 0 {
					refuses(t, with(l, at, bind.Pair{Node: at, D: g, E: d}), api.ErrArg)
				}
			}
			falling := slices.Clone(l)
			slices.Reverse(falling)
			if count > 1 {
				refuses(t, falling, api.ErrArg)
			}
		}
	}
}

// 18.1: a point that is none, or the one at infinity, wherever it stands.
func TestRefusesPoints(t *testing.T) {
	for _, wrong := range refused {
		for count := 1; count <= api.MaxNodes; count++ {
			l := plainList(count)
			for at := range count {
				refuses(t, with(l, at, bind.Pair{Node: at + 1, D: wrong, E: g}), api.ErrCurve)
				refuses(t, with(l, at, bind.Pair{Node: at + 1, D: g, E: wrong}), api.ErrCurve)
			}
		}
	}
}

// 18.1: what is no record, as it is cut, or longer, or of more than may be.
func TestDecodeNoRecord(t *testing.T) {
	for _, count := range []int{1, 2, 10} {
		s := bytesOf(plainList(count))
		for n := range len(s) {
			refusesText(t, "cut", s[:n], api.ErrForm)
		}
		for _, tail := range []string{"\x00", "\x00\x00", s, s[2:], "\x00\x43" + itemOf(plainList(1)[0])} {
			refusesText(t, "longer", s+tail, api.ErrForm)
		}
	}
	item := itemOf(plainList(1)[0])
	refusesText(t, "41 items", record(20, slices.Repeat([]string{item}, 41)...), api.ErrForm)
	refusesText(t, "long", strings.Repeat("\x14", 20001), api.ErrForm)
	refusesText(t, "an item of 8001 bytes", record(20, strings.Repeat("a", 8001)), api.ErrForm)
	great := strings.Repeat("a", 8000)
	refusesText(t, "many bytes", record(20, item, great, great, great), api.ErrForm)
}

// 18.1: records of other kinds.
func TestDecodeKind(t *testing.T) {
	s := bytesOf(plainList(2))
	for kind := range 256 {
		if kind != 20 {
			refusesText(t, "another kind", string([]byte{byte(kind)})+s[1:], api.ErrForm)
		}
	}
	refusesText(t, "another kind, no item", record(19), api.ErrForm)
}

// 18.1: items of another length than 67 bytes, wherever they stand: ahead of points and of nodes that are none.
func TestDecodeItemLength(t *testing.T) {
	good, none := itemOf(bind.Pair{Node: 1, D: g, E: g}), "\x01"+strings.Repeat("\x03"+limb.Bytes(api.Num{5}), 2)
	for _, length := range []int{0, 1, 33, 34, 65, 66, 68, 69, 134, 8000} {
		wrong := strings.Repeat(good, 120)[:length]
		for _, other := range []string{good, none} {
			for at := range 4 {
				items := slices.Repeat([]string{other}, 4)
				items[at] = wrong
				refusesText(t, "a wrong length", record(20, items...), api.ErrForm)
			}
		}
		refusesText(t, "a wrong length", record(20, wrong), api.ErrForm)
	}
}

// 18.1: curve.Decode's error of the first point that tells one: of each pair D, then E, ahead of nodes that are none.
func TestDecodePoints(t *testing.T) {
	good := codeOf(g)
	form, low := "\x04"+good[1:], "\x00"+good[1:]
	great := "\x02" + limb.Bytes(p)
	none := "\x03" + limb.Bytes(api.Num{5})
	for _, c := range []struct {
		codes []string
		want  api.Errno
	}{
		{[]string{form, good}, api.ErrForm}, {[]string{good, low}, api.ErrForm},
		{[]string{great, good}, api.ErrRange}, {[]string{good, great}, api.ErrRange},
		{[]string{none, good}, api.ErrCurve}, {[]string{good, none}, api.ErrCurve},
		{[]string{great, none}, api.ErrRange}, {[]string{none, great}, api.ErrCurve}, {[]string{low, great}, api.ErrForm},
		{[]string{good, good, none, great}, api.ErrCurve}, {[]string{good, good, great, form}, api.ErrRange},
		{[]string{good, great, none, good}, api.ErrRange}, {[]string{good, none, form, good}, api.ErrCurve},
		{[]string{good, codeOf(infinity), great, good}, api.ErrRange},
	} {
		for _, numbers := range []string{"\x01\x02", "\x02\x02", "\x02\x01", "\x00\x0b"} {
			var items []string
			for i := 0; i < len(c.codes); i += 2 {
				items = append(items, numbers[i/2:i/2+1]+c.codes[i]+c.codes[i+1])
			}
			refusesText(t, "points that are none", record(20, items...), c.want)
		}
	}
}

// 18.1: Check's error behind all others: no item, 11 and 40 items, nodes that are none, points at infinity.
func TestDecodeChecks(t *testing.T) {
	refusesText(t, "no item", record(20), api.ErrArg)
	for _, count := range []int{11, 12, 40} {
		refusesText(t, "too many", bytesOf(plainList(count)), api.ErrArg)
	}
	for _, node := range []int{0, 11, 12, 255} {
		refusesText(t, "no node", bytesOf([]bind.Pair{{Node: node, D: g, E: g}}), api.ErrArg)
		refusesText(t, "no node, at infinity", bytesOf([]bind.Pair{{Node: node, D: infinity, E: g}}), api.ErrArg)
	}
	for at := range 3 {
		refusesText(t, "D at infinity", bytesOf(with(plainList(3), at, bind.Pair{Node: at + 1, D: infinity, E: g})), api.ErrCurve)
		refusesText(t, "E at infinity", bytesOf(with(plainList(3), at, bind.Pair{Node: at + 1, D: g, E: infinity})), api.ErrCurve)
	}
	alike := []bind.Pair{{Node: 3, D: g, E: infinity}, {Node: 3, D: g, E: g}}
	refusesText(t, "alike, at infinity", bytesOf(alike), api.ErrArg)
}

// 18.3: each list has one form: what is decoded is encoded so.
func FuzzDecode(f *testing.F) {
	f.Add(bytesOf(plainList(1)))
	f.Add(bytesOf(plainList(10)))
	f.Add(bytesOf(plainList(11)))
	f.Add(record(20))
	f.Add("")
	f.Fuzz(func(t *testing.T, s string) {
		l, e := bind.Decode(s)
		if e != api.OK {
			if len(l) != 0 {
				t.Fatalf("%v beside %v", l, e)
			}
			return
		}
		if again, e := bind.Encode(l); again != s || e != api.OK {
			t.Fatalf("%x is encoded %x, %v", s, again, e)
		}
	})
}
