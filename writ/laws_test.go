package writ_test

import (
	"math/rand"
	"slices"
	"strings"
	"testing"
	"unsafe"

	"wardmote/api"
	"wardmote/oracle"
	"wardmote/queue"
	"wardmote/writ"
)

// 27.1, 27.4: whatever a script has, its text is as a plain one, and is that script's.
func TestFormatted(t *testing.T) {
	source := rand.New(rand.NewSource(2))
	for range 1500 {
		s := anyScript(source, 20)
		formats(t, s, textOf(s))
		parses(t, textOf(s), s)
	}
	for range 5 {
		s := anyScript(source, 0)
		for range 500 {
			s.L = append(s.L, anyChoice(source, 1+source.Intn(10)))
		}
		formats(t, s, textOf(s))
		parses(t, textOf(s), s)
	}
}

// bent is a text with something else in it.
func bent(source *rand.Rand, text string) string {
	at := source.Intn(len(text) + 1)
	pieces := []string{"", " ", "\n", "0", "1", "-", ".", "a", "6d", "tick 1\n", "x", "\x00", "F"}
	piece := pieces[source.Intn(len(pieces))]
	return text[:at] + piece + text[min(at+source.Intn(3), len(text)):]
}

// 27.1, 27.4: whatever bytes a text has, it is read as by a plain reader, and what is a script is written the same.
func TestParsed(t *testing.T) {
	source := rand.New(rand.NewSource(3))
	wrong, right := 0, 0
	for range 4000 {
		s := anyScript(source, 4)
		text := bent(source, textOf(s))
		if source.Intn(3) == 0 {
			text = bent(source, text)
		}
		want, at, e := plainly(text)
		if e != api.OK {
			fails(t, text, at, e)
			wrong++
			continue
		}
		parses(t, text, want)
		formats(t, want, text)
		right++
	}
	if wrong < 1000 || right < 300 {
		t.Errorf("%d wrong, %d right", wrong, right)
	}
}

// P1, 27.1, 27.4: likewise.
func FuzzParse(f *testing.F) {
	_, text := everyKind()
	f.Add(text)
	f.Add(first)
	f.Add("bench 1 0 0 61\nsubmit 1 7 6d\ntick 1\ndown 1 0 0\nstart 1\nround 2\nforge 1 2 .\n")
	f.Fuzz(func(t *testing.T, text string) {
		want, at, e := plainly(text)
		if e != api.OK {
			fails(t, text, at, e)
			return
		}
		parses(t, text, want)
		formats(t, want, text)
	})
}

// shares tells whether a text has bytes in memory of another one.
func shares(text, memory string) bool {
	from, at := uintptr(unsafe.Pointer(unsafe.StringData(memory))), uintptr(unsafe.Pointer(unsafe.StringData(text)))
	return len(text) > 0 && at >= from && at < from+uintptr(len(memory))
}

// R3: a text that is handed in is not kept.
func TestParseKeepsNothing(t *testing.T) {
	_, text := everyKind()
	memory := []byte(text)
	s, _, _ := writ.Parse(unsafe.String(&memory[0], len(memory)))
	clear(memory)
	if again, e := writ.Format(s); again != text || e != api.OK {
		t.Errorf("%q, %v", again, e)
	}
	for _, piece := range []string{s.Seed, s.L[0].M, s.L[8].M} {
		if shares(piece, unsafe.String(&memory[0], len(memory))) {
			t.Errorf("%q is where the text was", piece)
		}
	}
	other, _, _ := writ.Parse(text)
	other.L = append(other.L, api.Choice{})
	other.L[0].Node = 99
	third, _, _ := writ.Parse(text)
	if !same(third, s) {
		t.Errorf("%+v, not %+v", third, s)
	}
}

// R3: a script that is handed in is not changed, nor what is behind its choices; its texts are not kept.
func TestFormatKeepsNothing(t *testing.T) {
	s, text := everyKind()
	spare := api.Choice{Kind: api.DoTick, Node: 77}
	s.L = append(s.L, spare)[:len(s.L)]
	was := slices.Clone(s.L)
	seed, m := []byte("a\x00\xff"), []byte("m\n ")
	s.Seed, s.L[0].M = unsafe.String(&seed[0], len(seed)), unsafe.String(&m[0], len(m))
	got, e := writ.Format(s)
	if !slices.Equal(s.L, was) || s.L[:len(s.L)+1][len(s.L)] != spare {
		t.Errorf("%+v was changed", s.L)
	}
	clear(seed)
	clear(m)
	if got != text || e != api.OK {
		t.Errorf("%q, %v", got, e)
	}
}

// R3: nor are an event's requests.
func TestTellKeepsNothing(t *testing.T) {
	m := []byte("mmm")
	e := asked(7, unsafe.String(&m[0], len(m)), queue.Accepted, api.Sig{})
	e.L = append(make([]queue.Request, 0, 4), queue.Request{ID: 5, M: "x"})
	asks, _ := writ.Tell(1, e)
	e.Kind = oracle.Opened
	opens, _ := writ.Tell(1, e)
	clear(m)
	if asks != "asked 1 7 6d6d6d 1 ." || opens != "opened 1 5" || e.L[0] != (queue.Request{ID: 5, M: "x"}) || e.L[:2][1] != (queue.Request{}) {
		t.Errorf("%q, %q, %+v", asks, opens, e.L[:2])
	}
}

// R3: what a run answers is not where its text was.
func TestRunKeepsNothing(t *testing.T) {
	text := first + "submit 1 7 6d\nsubmit 1 8 " + strings.Repeat("61", 5000) + "\ntick 1\n"
	memory := []byte(text)
	out, _, _ := writ.Run(unsafe.String(&memory[0], len(memory)))
	was := strings.Clone(out)
	clear(memory)
	if out != was || shares(out, unsafe.String(&memory[0], len(memory))) || len(out) < 10000 {
		t.Errorf("%q", out)
	}
}
