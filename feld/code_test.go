package feld_test

import (
	"encoding/hex"
	"math/rand"
	"slices"
	"strings"
	"testing"

	"wardmote/api"
	"wardmote/curve"
	"wardmote/feld"
	"wardmote/limb"
)

// codeOf is what bytes commitments are.
func codeOf(c []api.Point) string {
	out := string(rune(len(c)))
	for _, a := range c {
		code, _ := curve.Encode(a)
		out += code
	}
	return out
}

// 7.1, 7.2: what another program reckoned.
func TestKnown(t *testing.T) {
	x := "79be667ef9dcbbac55a06295ce870b07029bfcdb2dce28d959f2815b16f81798"
	for _, known := range []struct {
		p    []api.Num
		code string
	}{
		{
			[]api.Num{{5}, {3}},
			"02" + "022f8bde4d1a07209355b4a7250a5c5128e88b84bddc619ab7cba8d569b240efe4" +
				"02f9308a019258c31049344f85f89d5229b531c845836f99b08601f113bce036f9",
		},
		{[]api.Num{{}, lessOne(q), {1}}, "03" + strings.Repeat("00", 33) + "03" + x + "02" + x},
	} {
		c, e := feld.Commit(known.p)
		if e != api.OK {
			t.Fatal(e)
		}
		if s, e := feld.Encode(c); hex.EncodeToString([]byte(s)) != known.code || e != api.OK {
			t.Errorf("Encode: %x, %v", s, e)
		}
	}
}

// 7.2: a list of 1 to MaxNodes points is encoded, and decoded again.
func TestEncodeAndDecode(t *testing.T) {
	source := rand.New(rand.NewSource(28))
	for count := 1; count <= api.MaxNodes; count++ {
		for range 10 {
			c := somePoints(source, count)
			s, e := feld.Encode(c)
			if s != codeOf(c) || len(s) != 1+33*count || e != api.OK {
				t.Fatalf("Encode of %d points: %x, %v", count, s, e)
			}
			got, e := feld.Decode(s)
			answersList(t, "Decode", got, e, c)
		}
	}
}

// 7.2: lists of no point, or of too many, ahead of what is no point; and that, wherever it stands.
func TestEncodeRefuses(t *testing.T) {
	for _, a := range append([]api.Point{g, infinity}, strangers...) {
		for _, c := range noLists(a) {
			if s, e := feld.Encode(c); s != "" || e != api.ErrArg {
				t.Errorf("Encode of %d points: %x, %v", len(c), s, e)
			}
		}
	}
	for _, a := range strangers {
		for count := 1; count <= api.MaxNodes; count++ {
			for i := range count {
				c := slices.Repeat([]api.Point{g}, count)
				c[i] = a
				if s, e := feld.Encode(c); s != "" || e != api.ErrCurve {
					t.Errorf("Encode of %v: %x, %v", a, s, e)
				}
			}
		}
	}
}

// 7.2: texts of no byte, that are cut, or longer, by a byte or by a point.
func TestDecodeLength(t *testing.T) {
	full := codeOf(slices.Repeat([]api.Point{g}, api.MaxNodes))
	for count := 1; count <= api.MaxNodes; count++ {
		s := codeOf(slices.Repeat([]api.Point{g}, count))
		for n := range len(s) {
			got, e := feld.Decode(s[:n])
			failsList(t, "Decode of a cut text", got, e, api.ErrForm)
		}
		for _, tail := range []string{"\x00", "\x02", s[1:34], s[1:33], full[1:]} {
			got, e := feld.Decode(s + tail)
			failsList(t, "Decode of a longer text", got, e, api.ErrForm)
		}
	}
}

// 7.2: a first byte that says another number, or none from 1 to MaxNodes; ahead of points that are none.
func TestDecodeCount(t *testing.T) {
	for first := range 256 {
		for _, count := range []int{0, 1, 2, 9, 10, 11, 255} {
			for _, code := range []string{codeOf([]api.Point{g})[1:], strings.Repeat("\xff", 33), strings.Repeat("\x00", 33)} {
				if first == count && first >= 1 && first <= api.MaxNodes {
					continue
				}
				got, e := feld.Decode(string([]byte{byte(first)}) + strings.Repeat(code, count))
				failsList(t, "Decode", got, e, api.ErrForm)
			}
		}
	}
}

// 7.2: curve.Decode's error of the first point that tells one.
func TestDecodeTellsTheFirst(t *testing.T) {
	good := codeOf([]api.Point{g})[1:]
	form, low := "\x04"+good[1:], "\x00"+good[1:]
	great := "\x02" + limb.Bytes(p)
	none := "\x03" + limb.Bytes(api.Num{5})
	for _, c := range []struct {
		codes []string
		want  api.Errno
	}{
		{[]string{form}, api.ErrForm}, {[]string{low}, api.ErrForm},
		{[]string{great}, api.ErrRange}, {[]string{none}, api.ErrCurve},
		{[]string{good, form}, api.ErrForm}, {[]string{good, great}, api.ErrRange}, {[]string{good, none}, api.ErrCurve},
		{[]string{form, great, none}, api.ErrForm}, {[]string{great, none, form}, api.ErrRange},
		{[]string{none, form, great}, api.ErrCurve}, {[]string{good, none, great}, api.ErrCurve},
		{[]string{good, good, great, none}, api.ErrRange}, {append(slices.Repeat([]string{good}, 9), none), api.ErrCurve},
		{append([]string{great}, slices.Repeat([]string{good}, 9)...), api.ErrRange},
	} {
		got, e := feld.Decode(string(rune(len(c.codes))) + strings.Join(c.codes, ""))
		failsList(t, "Decode", got, e, c.want)
	}
}

// 7.2: the one at infinity is a point, and its 33 bytes are told and taken.
func TestDecodeInfinity(t *testing.T) {
	for count := 1; count <= api.MaxNodes; count++ {
		got, e := feld.Decode(string(rune(count)) + strings.Repeat("\x00", 33*count))
		answersList(t, "Decode", got, e, slices.Repeat([]api.Point{infinity}, count))
	}
}
