package link_test

import (
	"encoding/binary"
	"math/rand"
	"slices"
	"strconv"
	"strings"
	"testing"
	"unsafe"

	"wardmote/api"
	"wardmote/link"
)

// wire carries letters from one end to the other one and back: each letter that was ever sent may come, any time, any
// number of times, or never.
type wire struct {
	source       *rand.Rand
	frames, acks []string
	pushed       map[int][]string // of each life
	taken        map[int][]string
	life         int
	s            *link.Sender
	r            *link.Taker
}

// newWire is a wire whose sender has its first life.
func newWire(t *testing.T, seed int64) *wire {
	w := &wire{source: rand.New(rand.NewSource(seed)), pushed: map[int][]string{}, taken: map[int][]string{}, life: 1}
	w.s, w.r = sender(t, 1), link.NewTaker()
	return w
}

// step does one thing, of which any may be.
func (w *wire) step(t *testing.T) {
	t.Helper()
	switch w.source.Intn(10) {
	case 0, 1:
		w.push(t)
	case 2:
		w.frames = append(w.frames, w.s.Frames()...)
	case 3:
		w.acks = append(w.acks, w.r.Ack())
	case 4:
		if w.source.Intn(60) == 0 {
			w.life += 1 + w.source.Intn(2)
			w.s = sender(t, w.life)
		}
	case 5:
		if len(w.acks) > 0 {
			w.hear(t, w.acks[w.source.Intn(len(w.acks))])
		}
	default:
		if len(w.frames) > 0 {
			// Late ones come as well as those that were sent just now.
			from := min(1, w.source.Intn(5)) * max(0, len(w.frames)-16)
			w.take(t, w.frames[from+w.source.Intn(len(w.frames)-from)])
		}
	}
	w.looks(t)
}

// push pushes a text that no other one is like.
func (w *wire) push(t *testing.T) {
	t.Helper()
	texts := w.pushed[w.life]
	text := strconv.Itoa(w.life) + "/" + strconv.Itoa(len(texts))
	n, e := w.s.Push(text)
	if w.s.Waiting() == link.Room && e == api.ErrFull {
		return
	}
	if n != len(texts)+1 || e != api.OK {
		t.Fatalf("Push: %d, %v", n, e)
	}
	w.pushed[w.life] = append(texts, text)
}

// take has a frame come.
func (w *wire) take(t *testing.T, frame string) {
	t.Helper()
	text, is, e := w.r.Take(frame)
	if e != api.OK && e != api.ErrState {
		t.Fatal(e)
	}
	if is {
		life, _ := w.r.Came()
		w.taken[life] = append(w.taken[life], text)
	}
}

// hear has an ack come: those up to its number wait no longer, if it is of this life.
func (w *wire) hear(t *testing.T, ack string) {
	t.Helper()
	before := w.s.Waiting()
	n, e := w.s.Heard(ack)
	want := api.OK
	if ack == "" {
		want = api.ErrForm
	} else if int(binary.BigEndian.Uint64([]byte(ack[4:12]))) != w.life {
		want = api.ErrState
	}
	tells(t, "Heard", e, want)
	if w.s.Waiting() != before-n {
		t.Fatalf("%d waited, %d do not, %d do", before, n, w.s.Waiting())
	}
}

// looks looks whether the texts that were taken are a beginning of those that were pushed, and whether all that wait no
// longer were taken.
func (w *wire) looks(t *testing.T) {
	t.Helper()
	for life, taken := range w.taken {
		if len(taken) > len(w.pushed[life]) || !slices.Equal(taken, w.pushed[life][:len(taken)]) {
			t.Fatalf("of %q are taken %q", w.pushed[life], taken)
		}
	}
	if known := len(w.pushed[w.life]) - w.s.Waiting(); known > len(w.taken[w.life]) {
		t.Fatalf("%d do not wait, %d are taken", known, len(w.taken[w.life]))
	}
	if life, came := w.r.Came(); came != len(w.taken[life]) {
		t.Fatalf("%d came, %d are taken", came, len(w.taken[life]))
	}
}

// 12.3: of each life the texts that are taken are a beginning of those that were pushed, each once; 12.4: where frames and
// acks come again and again, then, all of the last life are taken, and none waits.
func TestOnceInOrder(t *testing.T) {
	most, lives := 0, 0
	for seed := range int64(60) {
		w := newWire(t, seed)
		for range 2000 {
			w.step(t)
		}
		for range 20 {
			for _, frame := range w.s.Frames() {
				w.take(t, frame)
				w.looks(t)
			}
			w.hear(t, w.r.Ack())
		}
		if !slices.Equal(w.taken[w.life], w.pushed[w.life]) || w.s.Waiting() != 0 {
			t.Fatalf("%d of %d are taken, %d wait", len(w.taken[w.life]), len(w.pushed[w.life]), w.s.Waiting())
		}
		for _, taken := range w.taken {
			most = max(most, len(taken))
		}
		lives = max(lives, len(w.taken))
	}
	if most <= link.Room || lives < 4 {
		t.Errorf("no more than %d were taken of a life, and %d lives heard", most, lives)
	}
}

// 12.4: frames that come in the worst order, one a round, with one ack a round: all are taken.
func TestAllAreTaken(t *testing.T) {
	s, r := sender(t, 3, counted(1, 64)...), link.NewTaker()
	var taken []string
	for round := 0; s.Waiting() > 0; round++ {
		if round > 64 {
			t.Fatalf("%d wait", s.Waiting())
		}
		frames := s.Frames()
		slices.Reverse(frames)
		for _, frame := range frames {
			if text, is, _ := r.Take(frame); is {
				taken = append(taken, text)
			}
		}
		s.Heard(r.Ack())
	}
	if !slices.Equal(taken, counted(1, 64)) {
		t.Errorf("taken: %q", taken)
	}
}

// P1: whatever bytes a letter has: an end answers as the document says, and what is no letter changes nothing.
func FuzzLetters(f *testing.F) {
	for _, b := range slices.Concat(noFrames(), noAcks()) {
		f.Add(b)
	}
	f.Add(frame(5, 2, "b"))
	f.Add(ack(4, 1))
	f.Fuzz(func(t *testing.T, b string) {
		r, s := link.NewTaker(), sender(t, 4, "a", "b")
		r.Take(frame(5, 1, "a"))
		if _, _, e := r.Take(b); e != api.OK {
			has(t, r, 5, 1)
		} else if life, came := r.Came(); life < 5 || came > 2 {
			t.Fatal(life, came)
		}
		if n, e := s.Heard(b); e != api.OK {
			waits(t, s, 4, 0, "a", "b")
		} else if b != ack(4, n) {
			t.Fatalf("%q is an ack of %d", b, n)
		}
	})
}

// within tells whether a text is a piece of another one's memory.
func within(piece, all string) bool {
	from, at := uintptr(unsafe.Pointer(unsafe.StringData(all))), uintptr(unsafe.Pointer(unsafe.StringData(piece)))
	return piece != "" && at >= from && at < from+uintptr(len(all))
}

// R3: a text that was taken is no piece of its frame.
func TestTextsAreNew(t *testing.T) {
	letter := strings.Clone(frame(5, 1, "a text"))
	got, _, _ := link.NewTaker().Take(letter)
	if got != "a text" || within(got, letter) {
		t.Errorf("%q is a piece of the frame", got)
	}
}

// R3: a text is not kept as it was handed in: what becomes of its memory later is nobody's concern.
func TestTextIsNotKept(t *testing.T) {
	memory := []byte("a text")
	s := sender(t, 2, unsafe.String(&memory[0], len(memory)))
	clear(memory)
	waits(t, s, 2, 0, "a text")
}

// R3, R6: frames that were told are nobody's else, spare room too; the same are told again.
func TestListsAreNew(t *testing.T) {
	s := sender(t, 2, counted(1, 20)...)
	for came := range 20 {
		told := s.Frames()
		for i := range told[:cap(told)] {
			told[:cap(told)][i] = "other"
		}
		waits(t, s, 2, came, counted(came+1, 20)...)
		hears(t, s, ack(2, came+1), 1)
	}
}
