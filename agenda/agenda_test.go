package agenda_test

import (
	"math"
	"strconv"
	"testing"

	"wardmote/agenda"
	"wardmote/api"
)

// filled is an agenda with entries of these moments, whose texts are their tickets.
func filled(t *testing.T, moments ...int) *agenda.Agenda {
	t.Helper()
	a := agenda.New()
	for i, at := range moments {
		puts(t, a, at, strconv.Itoa(i+1), i+1)
	}
	return a
}

// 13.1, 13.2: the document's example, and what its limit is.
func TestExample(t *testing.T) {
	a := agenda.New()
	puts(t, a, 9, "a", 1)
	puts(t, a, 3, "b", 2)
	puts(t, a, 9, "c", 3)
	has(t, a, 3, entry(2, 3, "b"))
	takes(t, a, 9, entry(2, 3, "b"), entry(1, 9, "a"), entry(3, 9, "c"))
	empty(t, a)
	if agenda.MaxEntries != 512 {
		t.Error(agenda.MaxEntries)
	}
}

// 13.1: a new agenda has no entry, and none that another one has.
func TestNew(t *testing.T) {
	a, b := agenda.New(), agenda.New()
	empty(t, a)
	puts(t, a, 4, "a", 1)
	empty(t, b)
	puts(t, b, 5, "b", 1)
	has(t, a, 1, entry(1, 4, "a"))
	has(t, b, 1, entry(1, 5, "b"))
	var zero agenda.Agenda
	empty(t, &zero)
	drops(t, &zero, 1, false, api.OK)
	puts(t, &zero, 5, "b", 1)
	has(t, &zero, 1, entry(1, 5, "b"))
}

// 13.1, 13.2: moments of 0, of MaxBig, of -1 and of one more, in each call; one that is none gives no ticket and changes
// nothing.
func TestMoments(t *testing.T) {
	a := agenda.New()
	for i, at := range []int{0, 1, 1 << 31, 1 << 32, api.MaxBig - 1, api.MaxBig} {
		for _, none := range noMoments {
			failsPut(t, a, none, api.ErrArg)
			failsTake(t, a, none)
			moves(t, a, 1, none, api.ErrArg)
		}
		puts(t, a, at, "x", i+1)
	}
	has(t, a, 6, entry(1, 0, "x"))
	takes(t, a, 0, entry(1, 0, "x"))
	takes(t, a, 1, entry(2, 1, "x"))
	takes(t, a, 1<<31, entry(3, 1<<31, "x"))
	takes(t, a, 1<<32, entry(4, 1<<32, "x"))
	takes(t, a, api.MaxBig-1, entry(5, api.MaxBig-1, "x"))
	moves(t, a, 6, 0, api.OK)
	has(t, a, 1, entry(6, 0, "x"))
	moves(t, a, 6, api.MaxBig, api.OK)
	takes(t, a, api.MaxBig-1)
	takes(t, a, api.MaxBig, entry(6, api.MaxBig, "x"))
	empty(t, a)
}

// 13.1: an agenda of MaxEntries entries, and one more; there is room again when one was dropped, or told. A moment that is
// none is told ahead of it.
func TestFull(t *testing.T) {
	a := agenda.New()
	for i := range 512 {
		puts(t, a, 1000-i, "x", i+1)
	}
	for _, at := range []int{0, 1, api.MaxBig} {
		failsPut(t, a, at, api.ErrFull)
	}
	for _, none := range noMoments {
		failsPut(t, a, none, api.ErrArg)
	}
	has(t, a, 512, entry(512, 489, "x"))
	moves(t, a, 1, 3, api.OK)
	failsPut(t, a, 0, api.ErrFull)
	drops(t, a, 7, true, api.OK)
	has(t, a, 511, entry(1, 3, "x"))
	puts(t, a, 2, "y", 513)
	failsPut(t, a, 0, api.ErrFull)
	has(t, a, 512, entry(513, 2, "y"))
	takes(t, a, 3, entry(513, 2, "y"), entry(1, 3, "x"))
	puts(t, a, 3, "z", 514)
	puts(t, a, 3, "z", 515)
	failsPut(t, a, 3, api.ErrFull)
	if l, e := a.Take(api.MaxBig); len(l) != 512 || e != api.OK {
		t.Fatal(len(l), e)
	}
	for i := range 512 {
		puts(t, a, 7, "w", 516+i)
	}
	failsPut(t, a, 7, api.ErrFull)
}

// 13.1: texts of no byte, of bytes that are no letters, and of many.
func TestTexts(t *testing.T) {
	long := make([]byte, 1<<20)
	texts := []string{"", "\x00", "\xff\xfe", "ein Käse", string(long)}
	a := agenda.New()
	for i, what := range texts {
		puts(t, a, i, what, i+1)
	}
	for i, what := range texts {
		has(t, a, len(texts)-i, entry(i+1, i, what))
		takes(t, a, i, entry(i+1, i, what))
	}
}

// 13.1: tickets are given once: not again behind a Drop, a Take, or a Put that failed.
func TestTickets(t *testing.T) {
	a := filled(t, 5, 6, 7)
	drops(t, a, 3, true, api.OK)
	puts(t, a, 7, "d", 4)
	drops(t, a, 4, true, api.OK)
	drops(t, a, 1, true, api.OK)
	drops(t, a, 2, true, api.OK)
	empty(t, a)
	puts(t, a, 1, "e", 5)
	takes(t, a, 1, entry(5, 1, "e"))
	failsPut(t, a, -1, api.ErrArg)
	puts(t, a, 1, "f", 6)
	moves(t, a, 6, 2, api.OK)
	puts(t, a, 1, "g", 7)
	takes(t, a, 2, entry(7, 1, "g"), entry(6, 2, "f"))
	empty(t, a)
	puts(t, a, 0, "h", 8)
}

// 13.1: Drop and Move of tickets below 1, of entries that were dropped or told, and of such as were never given.
func TestNoEntry(t *testing.T) {
	a := filled(t, 5, 1, 6, 7)
	takes(t, a, 1, entry(2, 1, "2"))
	drops(t, a, 3, true, api.OK)
	for range 2 {
		for _, none := range noTickets {
			drops(t, a, none, false, api.ErrArg)
			moves(t, a, none, 3, api.ErrArg)
			moves(t, a, none, -1, api.ErrArg)
		}
		for _, gone := range []int{2, 3, 5, 6, 1 << 32, 1<<32 + 1, math.MaxInt} {
			drops(t, a, gone, false, api.OK)
			moves(t, a, gone, 0, api.ErrNone)
			moves(t, a, gone, -1, api.ErrArg)
			moves(t, a, gone, api.MaxBig+1, api.ErrArg)
		}
		has(t, a, 2, entry(1, 5, "1"))
	}
	takes(t, a, 9, entry(1, 5, "1"), entry(4, 7, "4"))
	drops(t, a, 1, false, api.OK)
	drops(t, a, 4, false, api.OK)
	moves(t, a, 4, 9, api.ErrNone)
	empty(t, a)
}

// 13.1: whichever entry is dropped, the others stay, and in their order.
func TestDrop(t *testing.T) {
	moments := []int{4, 9, 1, 4, 0, 9, 4, 2, 1, 7}
	for ticket := 1; ticket <= len(moments); ticket++ {
		a, p := filled(t, moments...), plain{}
		for i, at := range moments {
			p.put(at, strconv.Itoa(i+1))
		}
		drops(t, a, ticket, true, api.OK)
		p.drop(ticket)
		has(t, a, 9, p.due(9)[0])
		drops(t, a, ticket, false, api.OK)
		takes(t, a, 9, p.due(9)...)
		empty(t, a)
	}
}

// 13.1: entries of one moment are by their tickets, also where one was moved there, or was moved away and back.
func TestMove(t *testing.T) {
	a := filled(t, 5, 5, 9, 5, 1)
	moves(t, a, 3, 5, api.OK)
	moves(t, a, 1, 8, api.OK)
	moves(t, a, 1, 5, api.OK)
	moves(t, a, 5, 5, api.OK)
	has(t, a, 5, entry(1, 5, "1"))
	moves(t, a, 2, 5, api.OK)
	takes(t, a, 4)
	takes(t, a, 5, entry(1, 5, "1"), entry(2, 5, "2"), entry(3, 5, "3"), entry(4, 5, "4"), entry(5, 5, "5"))
	b := filled(t, 5, 5, 5)
	moves(t, b, 1, 6, api.OK)
	has(t, b, 3, entry(2, 5, "2"))
	moves(t, b, 3, 4, api.OK)
	takes(t, b, 6, entry(3, 4, "3"), entry(2, 5, "2"), entry(1, 6, "1"))
}

// 13.1: whichever entry is moved, and wherever to, the order is by moments, then by tickets.
func TestMoveEach(t *testing.T) {
	moments := []int{4, 9, 1, 4, 0, 9, 4, 2, 1, 7}
	for ticket := 1; ticket <= len(moments); ticket++ {
		for at := range 11 {
			a, p := filled(t, moments...), plain{}
			for i, at := range moments {
				p.put(at, strconv.Itoa(i+1))
			}
			moves(t, a, ticket, at, api.OK)
			p.move(ticket, at)
			has(t, a, 10, p.due(10)[0])
			takes(t, a, 10, p.due(10)...)
		}
	}
}

// 13.2: Take with none due, with some, with all, and twice.
func TestTake(t *testing.T) {
	a := filled(t, 5, 3, 9, 3, 5)
	takes(t, a, 0)
	takes(t, a, 2)
	has(t, a, 5, entry(2, 3, "2"))
	takes(t, a, 4, entry(2, 3, "2"), entry(4, 3, "4"))
	takes(t, a, 4)
	has(t, a, 3, entry(1, 5, "1"))
	// What was put late is due, too, and a now may be earlier than another one was.
	puts(t, a, 1, "6", 6)
	takes(t, a, 0)
	takes(t, a, 3, entry(6, 1, "6"))
	takes(t, a, api.MaxBig, entry(1, 5, "1"), entry(5, 5, "5"), entry(3, 9, "3"))
	empty(t, a)
}

// 13.1, 13.2: a nil agenda has none: what is wrong with an argument comes first.
func TestNil(t *testing.T) {
	var a *agenda.Agenda
	for range 2 {
		empty(t, a)
		for _, at := range []int{0, 1, api.MaxBig} {
			failsPut(t, a, at, api.ErrFull)
			moves(t, a, 1, at, api.ErrNone)
			takes(t, a, at)
		}
		for _, none := range noMoments {
			failsPut(t, a, none, api.ErrArg)
			failsTake(t, a, none)
			moves(t, a, 1, none, api.ErrArg)
			moves(t, a, 0, none, api.ErrArg)
		}
		for _, none := range noTickets {
			drops(t, a, none, false, api.ErrArg)
			moves(t, a, none, 1, api.ErrArg)
		}
		for _, ticket := range []int{1, 2, 512, 513, math.MaxInt} {
			drops(t, a, ticket, false, api.OK)
			moves(t, a, ticket, 1, api.ErrNone)
		}
	}
}
