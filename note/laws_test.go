package note_test

import (
	"math/rand"
	"slices"
	"testing"
	"unsafe"

	"wardmote/api"
	"wardmote/note"
)

// numBytes are a number's 32, the highest first, also of one that is no scalar.
func numBytes(a api.Num) []byte {
	out := make([]byte, 32)
	for i := range out {
		out[i] = byte(a[3-i/8] >> (8 * (7 - i%8)))
	}
	return out
}

// anyOf is a note of a kind.
func anyOf(source *rand.Rand, kind int) note.Note {
	n := plain(kind)
	for _, s := range spans {
		if has(kind, s.field) {
			*s.at(&n) = s.least + source.Intn(s.most-s.least+1)
		}
	}
	if has(kind, "message") {
		n.M = messages[source.Intn(len(messages))]
	}
	if has(kind, "scalar") {
		n.Z = scalars[source.Intn(len(scalars))]
	}
	if has(kind, "pair") {
		n.L = pairs(1 + source.Intn(10))
	}
	if has(kind, "list") {
		nodes := source.Perm(10)[:1+source.Intn(10)]
		slices.Sort(nodes)
		for i := range nodes {
			nodes[i]++
		}
		n.L = pairs(nodes...)
	}
	return n
}

// 23.2: what was encoded is decoded.
func TestThereAndBack(t *testing.T) {
	source := rand.New(rand.NewSource(1))
	for range 60 {
		kinds(func(kind int) { is(t, anyOf(source, kind)) })
	}
}

// 23.2: each note has one form: bytes of which one is another one are no note's, or another's.
func TestOneForm(t *testing.T) {
	source := rand.New(rand.NewSource(2))
	kinds(func(kind int) {
		n := plain(kind)
		whole := bytesOf(n)
		for at := range whole {
			b := []byte(whole)
			b[at] ^= byte(1 + source.Intn(255))
			got, e := note.Decode(string(b))
			if e == api.OK && same(got, n) {
				t.Fatalf("byte %d of %q may be another one", at, whole)
			}
			oneForm(t, string(b))
		}
	})
}

// oneForm looks for bytes that are none's, or those that their note is encoded as.
func oneForm(t *testing.T, s string) {
	t.Helper()
	n, e := note.Decode(s)
	if e != api.OK {
		areNone(t, s)
		return
	}
	if got, e := note.Encode(n); got != s || e != api.OK || note.Check(n) != api.OK {
		t.Fatalf("%q is decoded, and encoded as %q, %v", s, got, e)
	}
}

// P1, 23.2: whatever the bytes are.
func FuzzDecode(f *testing.F) {
	kinds(func(kind int) { f.Add(bytesOf(plain(kind))) })
	for _, s := range []string{"", "m", packed(31), packed(37, eights(0, 0, 0, 0), "", "", "", "")} {
		f.Add(s)
	}
	f.Fuzz(oneForm)
}

// R3: what is handed in is not changed, and an answer is new memory.
func TestMemory(t *testing.T) {
	n := plain(open)
	n.L = append(n.L, pairs(9)...)[:2]
	before := slices.Clone(n.L[:3])
	s, _ := note.Encode(n)
	letter := []byte(s)
	got, _ := note.Decode(unsafe.String(&letter[0], len(letter)))
	if !slices.Equal(n.L[:3], before) {
		t.Error("the list was changed")
	}
	clear(letter)
	if !same(got, n) {
		t.Errorf("what was decoded is kept in the letter: %s", show(got))
	}
	again, _ := note.Decode(s)
	got.L[0].Node = 7
	if !same(again, n) {
		t.Error("two answers share a list")
	}
}
