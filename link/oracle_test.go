package link_test

import (
	"encoding/binary"
	"slices"
	"testing"

	"wardmote/api"
	"wardmote/link"
)

// eight are a number's eight bytes.
func eight(n uint64) string { return string(binary.BigEndian.AppendUint64(nil, n)) }

// packed are the bytes of a record, as chapter 9 tells them.
func packed(kind int, items ...string) string {
	out := []byte{byte(kind), byte(len(items))}
	for _, item := range items {
		out = binary.BigEndian.AppendUint16(out, uint16(len(item)))
		out = append(out, item...)
	}
	return string(out)
}

// frame are the bytes of a frame, also of one that is none.
func frame(life, number int, text string) string {
	return packed(1, eight(uint64(life)), eight(uint64(number)), text)
}

// ack are the bytes of an ack, also of one that is none.
func ack(life, number int) string { return packed(2, eight(uint64(life)), eight(uint64(number))) }

// text is a text of so many bytes.
func text(n int) string {
	b := make([]byte, n)
	for i := range b {
		b[i] = byte(i*11 + i>>8)
	}
	return string(b)
}

// tells looks for an error, or for OK.
func tells(t *testing.T, what string, got, want api.Errno) {
	t.Helper()
	if got != want {
		t.Fatalf("%s: %v, not %v", what, got, want)
	}
}

// sender is an end that sends, of a life, with texts.
func sender(t *testing.T, life int, texts ...string) *link.Sender {
	t.Helper()
	s, e := link.NewSender(life)
	if s == nil || e != api.OK {
		t.Fatalf("NewSender(%d): %v, %v", life, s, e)
	}
	for i, text := range texts {
		pushes(t, s, text, i+1)
	}
	return s
}

// pushes looks for a text's number.
func pushes(t *testing.T, s *link.Sender, text string, want int) {
	t.Helper()
	if n, e := s.Push(text); n != want || e != api.OK {
		t.Fatalf("Push: %d, %v, not %d", n, e, want)
	}
}

// failsPush looks for what is wrong with a text.
func failsPush(t *testing.T, s *link.Sender, text string, want api.Errno) {
	t.Helper()
	if n, e := s.Push(text); n != 0 || e != want {
		t.Fatalf("Push: %d, %v, not %v", n, e, want)
	}
}

// hears looks for how many wait no longer.
func hears(t *testing.T, s *link.Sender, ack string, want int) {
	t.Helper()
	if n, e := s.Heard(ack); n != want || e != api.OK {
		t.Fatalf("Heard(%q): %d, %v, not %d", ack, n, e, want)
	}
}

// failsHeard looks for what is wrong with an ack.
func failsHeard(t *testing.T, s *link.Sender, ack string, want api.Errno) {
	t.Helper()
	if n, e := s.Heard(ack); n != 0 || e != want {
		t.Fatalf("Heard(%.80q): %d, %v, not %v", ack, n, e, want)
	}
}

// waits looks for the texts that wait behind the first so many that came, and for their frames.
func waits(t *testing.T, s *link.Sender, life, came int, texts ...string) {
	t.Helper()
	var want []string
	for i, text := range texts[:min(16, len(texts))] {
		want = append(want, frame(life, came+1+i, text))
	}
	if got := s.Frames(); !slices.Equal(got, want) {
		t.Fatalf("Frames: %.300q, not %.300q", got, want)
	}
	if n := s.Waiting(); n != len(texts) {
		t.Fatalf("Waiting: %d, not %d", n, len(texts))
	}
}

// takes looks for a text that is taken.
func takes(t *testing.T, r *link.Taker, frame, want string) {
	t.Helper()
	if got, is, e := r.Take(frame); got != want || !is || e != api.OK {
		t.Fatalf("Take(%.80q): %.80q, %v, %v, not %.80q", frame, got, is, e, want)
	}
}

// passes looks for a frame that is not the next one.
func passes(t *testing.T, r *link.Taker, frame string) {
	t.Helper()
	failsTake(t, r, frame, api.OK)
}

// failsTake looks for what is wrong with a frame.
func failsTake(t *testing.T, r *link.Taker, frame string, want api.Errno) {
	t.Helper()
	if got, is, e := r.Take(frame); got != "" || is || e != want {
		t.Fatalf("Take(%.80q): %.80q, %v, %v, not %v", frame, got, is, e, want)
	}
}

// has looks for what an end heard, and for its ack.
func has(t *testing.T, r *link.Taker, life, came int) {
	t.Helper()
	want := ""
	if life > 0 {
		want = ack(life, came)
	}
	if a, b := r.Came(); a != life || b != came {
		t.Fatalf("Came: %d, %d, not %d, %d", a, b, life, came)
	}
	if got := r.Ack(); got != want {
		t.Fatalf("Ack: %q, not %q", got, want)
	}
}
