package agenda_test

import (
	"math"
	"slices"
	"testing"

	"wardmote/agenda"
	"wardmote/api"
)

// noMoments are none, also such as are one mod 2^32.
var noMoments = []int{
	-1, -2, -1 << 31, -1 << 40, math.MinInt, api.MaxBig + 1, api.MaxBig + 2, 2 * api.MaxBig, 1 << 50, 1 << 62, math.MaxInt,
}

// noTickets are below 1.
var noTickets = []int{0, -1, -2, -1 << 32, 1 - 1<<32, math.MinInt, math.MinInt + 1}

// plain is an agenda that has its entries in a list, in the order in which they were put.
type plain struct {
	all  []agenda.Entry
	last int
}

// isMoment tells whether a number may be a moment.
func isMoment(n int) bool { return 0 <= n && n <= 1<<40 }

// put is what Put answers.
func (p *plain) put(at int, what string) (int, api.Errno) {
	if !isMoment(at) {
		return 0, api.ErrArg
	}
	if len(p.all) == 512 {
		return 0, api.ErrFull
	}
	p.last++
	p.all = append(p.all, agenda.Entry{Ticket: p.last, At: at, What: what})
	return p.last, api.OK
}

// find is the place of a ticket, or -1.
func (p *plain) find(ticket int) int {
	return slices.IndexFunc(p.all, func(e agenda.Entry) bool { return e.Ticket == ticket })
}

// drop is what Drop answers.
func (p *plain) drop(ticket int) (bool, api.Errno) {
	if ticket < 1 {
		return false, api.ErrArg
	}
	at := p.find(ticket)
	if at >= 0 {
		p.all = slices.Delete(p.all, at, at+1)
	}
	return at >= 0, api.OK
}

// move is what Move answers.
func (p *plain) move(ticket, at int) api.Errno {
	if ticket < 1 || !isMoment(at) {
		return api.ErrArg
	}
	place := p.find(ticket)
	if place < 0 {
		return api.ErrNone
	}
	p.all[place].At = at
	return api.OK
}

// due are the entries whose moment is now at most, in their order: as the list is by tickets, one moment after the other.
func (p *plain) due(now int) []agenda.Entry {
	var out []agenda.Entry
	for _, e := range p.all {
		if e.At <= now {
			out = append(out, e)
		}
	}
	slices.SortStableFunc(out, func(a, b agenda.Entry) int { return a.At - b.At })
	return out
}

// take is what Take answers.
func (p *plain) take(now int) ([]agenda.Entry, api.Errno) {
	if !isMoment(now) {
		return nil, api.ErrArg
	}
	out := p.due(now)
	p.all = slices.DeleteFunc(p.all, func(e agenda.Entry) bool { return e.At <= now })
	return out, api.OK
}

// puts looks for an entry's ticket.
func puts(t *testing.T, a *agenda.Agenda, at int, what string, want int) {
	t.Helper()
	if n, e := a.Put(at, what); n != want || e != api.OK {
		t.Fatalf("Put(%d, %q): %d, %v, not %d", at, what, n, e, want)
	}
}

// failsPut looks for what is wrong with an entry.
func failsPut(t *testing.T, a *agenda.Agenda, at int, want api.Errno) {
	t.Helper()
	if n, e := a.Put(at, "x"); n != 0 || e != want {
		t.Fatalf("Put(%d): %d, %v, not %v", at, n, e, want)
	}
}

// drops looks for whether there was an entry.
func drops(t *testing.T, a *agenda.Agenda, ticket int, want bool, fault api.Errno) {
	t.Helper()
	if was, e := a.Drop(ticket); was != want || e != fault {
		t.Fatalf("Drop(%d): %v, %v, not %v, %v", ticket, was, e, want, fault)
	}
}

// moves looks for what is wrong with a move, or OK.
func moves(t *testing.T, a *agenda.Agenda, ticket, at int, want api.Errno) {
	t.Helper()
	if e := a.Move(ticket, at); e != want {
		t.Fatalf("Move(%d, %d): %v, not %v", ticket, at, e, want)
	}
}

// takes looks for the entries that are due.
func takes(t *testing.T, a *agenda.Agenda, now int, want ...agenda.Entry) {
	t.Helper()
	if got, e := a.Take(now); !slices.Equal(got, want) || e != api.OK {
		t.Fatalf("Take(%d): %v, %v, not %v", now, got, e, want)
	}
}

// failsTake looks for a moment that is none.
func failsTake(t *testing.T, a *agenda.Agenda, now int) {
	t.Helper()
	if got, e := a.Take(now); len(got) != 0 || e != api.ErrArg {
		t.Fatalf("Take(%d): %v, %v", now, got, e)
	}
}

// has looks for how many entries there are, and which is the first.
func has(t *testing.T, a *agenda.Agenda, count int, first agenda.Entry) {
	t.Helper()
	if n := a.Len(); n != count {
		t.Fatalf("Len: %d, not %d", n, count)
	}
	if got, is := a.First(); got != first || is != (count > 0) {
		t.Fatalf("First: %v, %v, not %v", got, is, first)
	}
}

// empty looks for an agenda without entries.
func empty(t *testing.T, a *agenda.Agenda) {
	t.Helper()
	has(t, a, 0, agenda.Entry{})
	takes(t, a, api.MaxBig)
}

// entry is an entry.
func entry(ticket, at int, what string) agenda.Entry {
	return agenda.Entry{Ticket: ticket, At: at, What: what}
}
