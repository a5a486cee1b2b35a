package note_test

import (
	"encoding/binary"
	"fmt"
	"slices"
	"strings"
	"testing"

	"wardmote/api"
	"wardmote/bind"
	"wardmote/curve"
	"wardmote/field"
	"wardmote/limb"
	"wardmote/note"
)

const (
	gossip = 1
	ask    = 2
	offer  = 3
	open   = 4
	share  = 5
	final  = 6
	beat   = 7

	big  = 1 << 40
	ones = ^uint64(0)
)

var (
	g        = curve.G()
	minus, _ = curve.Neg(g)
	twice, _ = curve.Add(g, g)
	infinity = api.Point{Inf: true}
	q        = field.Scalars().Modulus()
	p        = field.Base().Modulus()
	last     = api.Num{q[0] - 1, q[1], q[2], q[3]} // the greatest scalar

	// full has as many bytes as a message may have, and long one more.
	full = strings.Repeat("m", 4096)
	long = full + "m"

	// messages are of no byte, of some, with noughts, and of as many bytes as may be.
	messages = []string{"", "m", "\x00", "\xff\xfe", "ein Käse", full[1:], full}

	scalars   = []api.Num{{}, {1}, {0, 1}, {0, 0, 0, 1}, {ones, ones}, last}
	noScalars = []api.Num{q, {q[0] + 1, q[1], q[2], q[3]}, {0, 0, ones, ones}, {ones, ones, ones, ones}}

	// noPoints are beside the curve, with a coordinate from P on, infinite with a coordinate.
	noPoints = []api.Point{
		{}, {X: g.X}, {X: g.Y, Y: g.X}, {X: g.X, Y: p}, {X: p, Y: g.Y}, {X: g.X, Y: g.Y, Inf: true}, {X: p, Inf: true},
	}
)

// eights are the bytes of numbers, eight of each.
func eights(numbers ...int) string {
	var out []byte
	for _, n := range numbers {
		out = binary.BigEndian.AppendUint64(out, uint64(n))
	}
	return string(out)
}

// packed are the bytes of a record, as chapter 9 tells them.
func packed(kind int, items ...string) string {
	out := []byte{byte(kind), byte(len(items))}
	for _, item := range items {
		out = append(binary.BigEndian.AppendUint16(out, uint16(len(item))), item...)
	}
	return string(out)
}

// pointBytes are those of a point, as chapter 3 tells them.
func pointBytes(a api.Point) string {
	if a.Inf {
		return strings.Repeat("\x00", 33)
	}
	return string([]byte{byte(2 + a.Y[0]&1)}) + limb.Bytes(a.X)
}

// listBytes are those of a list, as chapter 18 tells them.
func listBytes(l []bind.Pair) string {
	var items []string
	for _, pair := range l {
		items = append(items, string([]byte{byte(pair.Node)})+pointBytes(pair.D)+pointBytes(pair.E))
	}
	return packed(20, items...)
}

// itemsOf are a note's five, as chapter 23 tells them; of a field that the kind has not, too, if it is set.
func itemsOf(n note.Note) []string {
	out := []string{eights(n.View, n.Origin, n.ID, n.Session), n.M, "", "", ""}
	if n.Kind == share || n.Z != (api.Num{}) {
		out[2] = limb.Bytes(n.Z)
	}
	if len(n.L) > 0 {
		out[3] = listBytes(n.L)
	}
	if n.Kind == final || n.Sig != (api.Sig{}) {
		out[4] = pointBytes(n.Sig.R) + limb.Bytes(n.Sig.Z)
	}
	return out
}

// bytesOf are a note's bytes.
func bytesOf(n note.Note) string { return packed(30+n.Kind, itemsOf(n)...) }

// pairs are a list of nodes.
func pairs(nodes ...int) []bind.Pair {
	var out []bind.Pair
	for i, node := range nodes {
		out = append(out, bind.Pair{Node: node, D: []api.Point{g, minus, twice}[i%3], E: []api.Point{twice, g}[i%2]})
	}
	return out
}

// plain is a note of a kind, with all that it has.
func plain(kind int) note.Note {
	switch kind {
	case gossip:
		return note.Note{Kind: kind, Origin: 1, ID: 2, M: "m"}
	case ask:
		return note.Note{Kind: kind, View: 3, Origin: 1, ID: 2, Session: 4, M: "m"}
	case offer:
		return note.Note{Kind: kind, View: 3, Origin: 1, ID: 2, Session: 4, L: pairs(4)}
	case open:
		return note.Note{Kind: kind, View: 3, Origin: 1, ID: 2, Session: 4, M: "m", L: pairs(1, 4)}
	case share:
		return note.Note{Kind: kind, View: 3, Origin: 1, ID: 2, Session: 4, Z: api.Num{6}, L: pairs(4)}
	case final:
		return note.Note{Kind: kind, Origin: 1, ID: 2, M: "m", Sig: api.Sig{R: g, Z: api.Num{7}}}
	}
	return note.Note{Kind: kind, View: 5}
}

// has tells by a kind whether it has a field.
func has(kind int, field string) bool {
	return slices.Contains(map[string][]int{
		"view": {ask, offer, open, share, beat}, "name": {gossip, ask, offer, open, share, final},
		"session": {ask, offer, open, share}, "message": {gossip, ask, open, final}, "scalar": {share},
		"pair": {offer, share}, "list": {open}, "sig": {final},
	}[field], kind)
}

// kinds goes through all kinds.
func kinds(do func(kind int)) {
	for kind := gossip; kind <= beat; kind++ {
		do(kind)
	}
}

// same tells whether two notes are the same; a list without an element may be nil.
func same(a, b note.Note) bool {
	return a.Kind == b.Kind && a.View == b.View && a.Origin == b.Origin && a.ID == b.ID && a.Session == b.Session &&
		a.M == b.M && a.Z == b.Z && slices.Equal(a.L, b.L) && a.Sig == b.Sig
}

// show is a note, for people.
func show(n note.Note) string {
	return fmt.Sprintf("kind %d, view %d, origin %d, ID %d, session %d, %d bytes, Z %v, %d pairs, Sig %v", n.Kind, n.View, n.Origin,
		n.ID, n.Session, len(n.M), n.Z, len(n.L), n.Sig)
}

// is looks for a note, and for its bytes there and back.
func is(t *testing.T, n note.Note) {
	t.Helper()
	if e := note.Check(n); e != api.OK {
		t.Fatalf("Check(%s): %v", show(n), e)
	}
	s, e := note.Encode(n)
	if s != bytesOf(n) || e != api.OK {
		t.Fatalf("Encode(%s): %.200q, %v, not %.200q", show(n), s, e, bytesOf(n))
	}
	if got, e := note.Decode(s); !same(got, n) || e != api.OK {
		t.Fatalf("Decode(%.200q): %s, %v, not %s", s, show(got), e, show(n))
	}
}

// isNone looks for what is no note.
func isNone(t *testing.T, n note.Note) {
	t.Helper()
	if e := note.Check(n); e != api.ErrForm {
		t.Fatalf("Check(%s): %v", show(n), e)
	}
	if s, e := note.Encode(n); s != "" || e != api.ErrForm {
		t.Fatalf("Encode(%s): %.200q, %v", show(n), s, e)
	}
}

// areNone looks for bytes that are no note's.
func areNone(t *testing.T, s string) {
	t.Helper()
	if n, e := note.Decode(s); !same(n, note.Note{}) || e != api.ErrForm {
		t.Fatalf("Decode(%.200q): %s, %v", s, show(n), e)
	}
}

// isOrNone looks for a note, or for what is none, and whose bytes, where they can be told at all, are none's.
func isOrNone(t *testing.T, n note.Note, want bool) {
	t.Helper()
	if want {
		is(t, n)
		return
	}
	isNone(t, n)
	if 0 <= n.Kind && n.Kind < 200 && len(n.M) < 8000 {
		areNone(t, bytesOf(n))
	}
}
