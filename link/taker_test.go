package link_test

import (
	"math"
	"testing"

	"wardmote/api"
	"wardmote/link"
)

// 12.2: an end that heard nothing.
func TestNewTaker(t *testing.T) {
	has(t, link.NewTaker(), 0, 0)
	r, other := link.NewTaker(), link.NewTaker()
	takes(t, r, frame(1, 1, "a"), "a")
	has(t, r, 1, 1)
	has(t, other, 0, 0)
}

// 12.2: frames in their order, each doubled, and each of those that came, late.
func TestTakeInOrder(t *testing.T) {
	r := link.NewTaker()
	for n := 1; n <= 40; n++ {
		takes(t, r, frame(5, n, text(n)), text(n))
		has(t, r, 5, n)
		for late := 1; late <= n; late++ {
			passes(t, r, frame(5, late, "other"))
		}
		for _, early := range []int{n + 2, n + 3, n + 256, n + 1 + 1<<32, api.MaxBig} {
			passes(t, r, frame(5, early, "other"))
		}
		has(t, r, 5, n)
	}
}

// 12.2: texts of no byte, and of as many as there may be; and lives and numbers at their ends.
func TestTakeEdges(t *testing.T) {
	for _, life := range []int{1, 2, 1 << 32, api.MaxBig - 1, api.MaxBig} {
		for _, n := range []int{0, 1, 7899, 7900} {
			r := link.NewTaker()
			takes(t, r, frame(life, 1, text(n)), text(n))
			has(t, r, life, 1)
			passes(t, r, frame(life, api.MaxBig, text(n)))
			has(t, r, life, 1)
		}
	}
}

// 12.2: a frame of a greater life begins anew, also one that is not its first; one of a life that is over is refused.
func TestTakeLives(t *testing.T) {
	r := link.NewTaker()
	takes(t, r, frame(5, 1, "a"), "a")
	takes(t, r, frame(5, 2, "b"), "b")
	takes(t, r, frame(6, 1, "c"), "c")
	has(t, r, 6, 1)
	for _, life := range []int{1, 4, 5} {
		for _, number := range []int{1, 2, 3, api.MaxBig} {
			failsTake(t, r, frame(life, number, "x"), api.ErrState)
			has(t, r, 6, 1)
		}
	}
	takes(t, r, frame(6, 2, "d"), "d")
	passes(t, r, frame(9, 3, "x"))
	has(t, r, 9, 0)
	failsTake(t, r, frame(6, 3, "x"), api.ErrState)
	passes(t, r, frame(9, 2, "x"))
	has(t, r, 9, 0)
	takes(t, r, frame(9, 1, ""), "")
	has(t, r, 9, 1)
	passes(t, r, frame(api.MaxBig, 2, "x"))
	has(t, r, api.MaxBig, 0)
	failsTake(t, r, frame(api.MaxBig-1, 1, "x"), api.ErrState)
	takes(t, r, frame(api.MaxBig, 1, "e"), "e")
}

// 12.2: the first frame that is heard may be one that is not the next: its life is heard, and none came.
func TestTakeEarly(t *testing.T) {
	for _, number := range []int{2, 3, 17, api.MaxBig} {
		r := link.NewTaker()
		passes(t, r, frame(5, number, "x"))
		has(t, r, 5, 0)
		takes(t, r, frame(5, 1, "a"), "a")
		has(t, r, 5, 1)
	}
}

// noFrames are bytes that are no frame's, though near to those of life 5 with the number 2.
func noFrames() []string {
	a, b := eight(5), eight(2)
	out := []string{
		"", "x", "\x01", "\x01\x00", ack(5, 2), text(50), text(20001), frame(5, 2, "a") + "a", frame(5, 2, "a")[:22],
		packed(1), packed(1, a), packed(1, a, b), packed(1, a, b, "", ""), packed(1, a, b, "a", b),
		packed(2, a, b, "a"), packed(3, a, b, "a"), packed(0, a, b, "a"), packed(64, a, b, "a"), packed(65, a, b, "a"),
		packed(129, a, b, "a"), packed(1, "", b, "a"), packed(1, a, "", "a"), packed(1, a[1:], b, "a"),
		packed(1, a, b[1:], "a"), packed(1, "\x00"+a, b, "a"), packed(1, a, "\x00"+b, "a"), packed(1, "5", "2", "a"),
		packed(1, "a", a, b), packed(1, a, "a", b),
		packed(1, eight(1<<63+5), b, "a"), packed(1, a, eight(1<<63+2), "a"), packed(1, a, eight(math.MaxUint64), "a"),
		packed(1, eight(math.MaxUint64), b, "a"),
		frame(5, 2, text(7901)), frame(5, 2, text(7902)), frame(5, 2, text(8000)), frame(5, 2, text(8001)),
		frame(6, 1, text(7901)), frame(4, 1, text(7901)), frame(6, 0, "a"), frame(4, 0, "a"), frame(0, 0, "a"),
	}
	for _, none := range noLives {
		out = append(out, frame(none, 2, "a"), frame(none, 1, "a"), frame(5, none, "a"), frame(6, none, "a"))
	}
	whole := frame(5, 2, "ab")
	for n := range len(whole) {
		out = append(out, whole[:n])
	}
	return out
}

// 12.2: bytes that are no frame's: nothing came, and no life is heard. It is told ahead of a life that is over.
func TestTakeForm(t *testing.T) {
	r, nobody, later := link.NewTaker(), link.NewTaker(), link.NewTaker()
	takes(t, r, frame(5, 1, "a"), "a")
	passes(t, later, frame(api.MaxBig, 2, "a"))
	for _, b := range noFrames() {
		failsTake(t, r, b, api.ErrForm)
		has(t, r, 5, 1)
		failsTake(t, nobody, b, api.ErrForm)
		has(t, nobody, 0, 0)
		failsTake(t, later, b, api.ErrForm)
		failsTake(t, nil, b, api.ErrForm)
	}
	takes(t, r, frame(5, 2, "b"), "b")
}

// 12.2: a nil end that takes.
func TestNilTaker(t *testing.T) {
	var r *link.Taker
	for _, b := range []string{frame(1, 1, ""), frame(5, 2, "a"), frame(api.MaxBig, api.MaxBig, text(7900))} {
		failsTake(t, r, b, api.ErrState)
	}
	has(t, r, 0, 0)
}
