package link_test

import (
	"math"
	"strconv"
	"strings"
	"testing"

	"wardmote/api"
	"wardmote/link"
)

// noLives are none, also such as are one mod 2^32.
var noLives = []int{
	0, -1, -5, math.MinInt, api.MaxBig + 1, api.MaxBig + 2, api.MaxBig + 4, 2 * api.MaxBig, 1<<50 - 1, 1 << 62, math.MaxInt,
}

// noNumbers are such as no text has, and up to which none came.
var noNumbers = []int{-1, math.MinInt, api.MaxBig + 1, api.MaxBig + 2, 2 * api.MaxBig, 1<<50 - 1, 1<<56 + 1, math.MaxInt}

// counted are the texts 1, 2 and so on.
func counted(from, to int) []string {
	var out []string
	for i := from; i <= to; i++ {
		out = append(out, strconv.Itoa(i))
	}
	return out
}

// 12.1, 12.2: the document's example, and what its limits are.
func TestExample(t *testing.T) {
	s, r := sender(t, 5, "a", "b"), link.NewTaker()
	waits(t, s, 5, 0, "a", "b")
	f := s.Frames()
	passes(t, r, f[1])
	takes(t, r, f[0], "a")
	takes(t, r, f[1], "b")
	has(t, r, 5, 2)
	hears(t, s, r.Ack(), 2)
	waits(t, s, 5, 2)
	if link.Data != 1 || link.Ack != 2 || link.Room != 64 || link.Most != 16 {
		t.Error(link.Data, link.Ack, link.Room, link.Most)
	}
}

// 12.1: what is a life, and what is none.
func TestNewSender(t *testing.T) {
	for _, life := range []int{1, 2, 5, 1024, 1 << 32, api.MaxBig - 1, api.MaxBig} {
		s := sender(t, life)
		waits(t, s, life, 0)
		pushes(t, s, "a", 1)
		waits(t, s, life, 0, "a")
	}
	for _, life := range noLives {
		if s, e := link.NewSender(life); s != nil || e != api.ErrArg {
			t.Errorf("NewSender(%d): %v, %v", life, s, e)
		}
	}
}

// 12.1: texts of no byte, of as many as there may be, and of one more.
func TestPush(t *testing.T) {
	var all []string
	s := sender(t, 3)
	for i, n := range []int{0, 1, 255, 256, 7899, 7900} {
		for _, more := range []int{7901, 7902, 8000, 8001, 65536, 1 << 20} {
			failsPush(t, s, text(more), api.ErrLong)
		}
		waits(t, s, 3, 0, all...)
		pushes(t, s, text(n), i+1)
		all = append(all, text(n))
		waits(t, s, 3, 0, all...)
	}
}

// 12.1: a sender for whom Room texts wait, and one more; there is room again when some were acknowledged. A text that is
// too long is told ahead of it.
func TestPushFull(t *testing.T) {
	s := sender(t, 7, counted(1, 63)...)
	pushes(t, s, "64", 64)
	for _, text := range []string{"", "65", text(7900)} {
		failsPush(t, s, text, api.ErrFull)
		waits(t, s, 7, 0, counted(1, 64)...)
	}
	failsPush(t, s, text(7901), api.ErrLong)
	hears(t, s, ack(7, 1), 1)
	waits(t, s, 7, 1, counted(2, 64)...)
	pushes(t, s, "65", 65)
	failsPush(t, s, "66", api.ErrFull)
	waits(t, s, 7, 1, counted(2, 65)...)
	hears(t, s, ack(7, 65), 64)
	waits(t, s, 7, 65)
	for n := 66; n <= 129; n++ {
		pushes(t, s, strconv.Itoa(n), n)
	}
	failsPush(t, s, "130", api.ErrFull)
	waits(t, s, 7, 65, counted(66, 129)...)
}

// 12.1: frames of none that wait, of some, of Most, and of more; they are sent again, and no call changes them.
func TestFrames(t *testing.T) {
	for _, count := range []int{0, 1, 2, 15, 16, 17, 31, 32, 33, 63, 64} {
		s := sender(t, 9, counted(1, count)...)
		for range 3 {
			waits(t, s, 9, 0, counted(1, count)...)
		}
		if got := len(s.Frames()); got != min(16, count) {
			t.Errorf("%d frames of %d", got, count)
		}
		for came := 1; came <= count; came++ {
			hears(t, s, ack(9, came), 1)
			waits(t, s, 9, came, counted(came+1, count)...)
		}
	}
}

// 12.1: acks of each number, and then of each: what is late, or comes twice, has none wait no longer.
func TestHeard(t *testing.T) {
	for first := range 21 {
		for second := range 21 {
			s := sender(t, 4, counted(1, 20)...)
			hears(t, s, ack(4, first), first)
			waits(t, s, 4, first, counted(first+1, 20)...)
			hears(t, s, ack(4, first), 0)
			hears(t, s, ack(4, second), max(0, second-first))
			top := max(first, second)
			waits(t, s, 4, top, counted(top+1, 20)...)
			pushes(t, s, "21", 21)
			waits(t, s, 4, top, counted(top+1, 21)...)
		}
	}
}

// 12.1: an ack of another life, or of a number above the last one's: nothing stops waiting.
func TestHeardState(t *testing.T) {
	s := sender(t, 4, "a", "b", "c")
	refuse := func(came int) {
		t.Helper()
		for _, life := range []int{1, 2, 3, 5, 6, 4 + 1<<32, api.MaxBig - 1, api.MaxBig} {
			for _, number := range []int{0, 1, 2, 3, 4, api.MaxBig - 1, api.MaxBig} {
				failsHeard(t, s, ack(life, number), api.ErrState)
			}
		}
		for _, number := range []int{4, 5, 1 << 32, 1<<32 + 1, api.MaxBig - 1, api.MaxBig} {
			failsHeard(t, s, ack(4, number), api.ErrState)
		}
		waits(t, s, 4, came, []string{"a", "b", "c"}[came:]...)
	}
	refuse(0)
	hears(t, s, ack(4, 2), 2)
	refuse(2)
	hears(t, s, ack(4, 3), 1)
	refuse(3)
	none := sender(t, 1)
	hears(t, none, ack(1, 0), 0)
	failsHeard(t, none, ack(1, 1), api.ErrState)
	top := sender(t, api.MaxBig, "a")
	failsHeard(t, top, ack(api.MaxBig-1, 1), api.ErrState)
	hears(t, top, ack(api.MaxBig, 1), 1)
}

// noAcks are bytes that are no ack's, though near to those of life 4.
func noAcks() []string {
	a, b := eight(4), eight(1)
	out := []string{
		"", "x", "\x02", "\x02\x00", frame(4, 1, ""), frame(4, 1, "a"), text(50), text(20001),
		packed(2), packed(2, a), packed(2, a, b, ""), packed(2, a, b, b), packed(2, a, b)[:19], packed(2, a, b) + "a",
		packed(1, a, b), packed(3, a, b), packed(0, a, b), packed(64, a, b), packed(66, a, b), packed(130, a, b),
		packed(2, "", b), packed(2, a, ""), packed(2, a[1:], b), packed(2, a, b[1:]), packed(2, "\x00"+a, b),
		packed(2, a, "\x00"+b), packed(2, "4", "1"), packed(2, a[:7], b+"a"), packed(2, a+b),
		packed(2, eight(1<<63+4), b), packed(2, a, eight(1<<63+1)), packed(2, eight(math.MaxUint64), b),
		packed(2, a, eight(math.MaxUint64)), packed(2, eight(1<<63), eight(1<<63)),
	}
	for _, none := range noLives {
		for _, number := range []int{0, 1, 2, 6, api.MaxBig, api.MaxBig + 1, math.MaxInt} {
			out = append(out, ack(none, number))
		}
	}
	for _, none := range noNumbers {
		for _, life := range []int{1, 3, 4, 5, api.MaxBig} {
			out = append(out, ack(life, none))
		}
	}
	whole := ack(4, 1)
	for n := range len(whole) {
		out = append(out, whole[:n])
	}
	return out
}

// 12.1: bytes that are no ack's: nothing stops waiting. It is told ahead of a life that is another one.
func TestHeardForm(t *testing.T) {
	s, others := sender(t, 4, "a", "b"), []*link.Sender{sender(t, 1), sender(t, 5), sender(t, api.MaxBig, "a")}
	for _, b := range noAcks() {
		failsHeard(t, s, b, api.ErrForm)
		for _, other := range others {
			failsHeard(t, other, b, api.ErrForm)
		}
		failsHeard(t, nil, b, api.ErrForm)
		waits(t, s, 4, 0, "a", "b")
	}
	failsHeard(t, s, packed(2, eight(3), eight(9), ""), api.ErrForm)
	failsHeard(t, s, packed(2, eight(3), eight(1<<63)), api.ErrForm)
	hears(t, s, ack(4, 1), 1)
}

// 12.1: a nil end that sends.
func TestNilSender(t *testing.T) {
	var s *link.Sender
	for _, n := range []int{0, 1, 7900} {
		failsPush(t, s, text(n), api.ErrState)
	}
	failsPush(t, s, text(7901), api.ErrLong)
	failsPush(t, s, strings.Repeat("a", 1<<20), api.ErrLong)
	for _, b := range []string{ack(1, 0), ack(1, 1), ack(4, 1), ack(1, api.MaxBig), ack(api.MaxBig, 0), ack(api.MaxBig, api.MaxBig)} {
		failsHeard(t, s, b, api.ErrState)
	}
	if got := s.Frames(); len(got) != 0 || s.Waiting() != 0 {
		t.Errorf("a nil end has %q, %d", got, s.Waiting())
	}
}
