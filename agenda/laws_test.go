package agenda_test

import (
	"math/rand"
	"slices"
	"strconv"
	"strings"
	"testing"
	"unsafe"

	"wardmote/agenda"
	"wardmote/api"
)

// script calls an agenda at random, beside a plain one that must answer the same.
type script struct {
	source *rand.Rand
	a      *agenda.Agenda
	p      plain
	span   int         // moments are below it
	told   map[int]int // by ticket: how often it was told
	most   int         // how many entries there were at once
}

// moment is one, now and then one that is none.
func (s *script) moment() int {
	if s.source.Intn(40) == 0 {
		return noMoments[s.source.Intn(len(noMoments))]
	}
	return s.source.Intn(s.span)
}

// ticket is one that was given, or nearly.
func (s *script) ticket() int { return s.source.Intn(s.p.last+3) - 1 }

// put puts one.
func (s *script) put(t *testing.T) {
	at, what := s.moment(), strconv.Itoa(s.p.last)
	n, e := s.a.Put(at, what)
	if want, fault := s.p.put(at, what); n != want || e != fault {
		t.Fatalf("Put(%d): %d, %v, not %d, %v", at, n, e, want, fault)
	}
}

// take takes those that are due: each for the first time, and none too early.
func (s *script) take(t *testing.T) {
	now := s.moment()
	got, e := s.a.Take(now)
	if want, fault := s.p.take(now); !slices.Equal(got, want) || e != fault {
		t.Fatalf("Take(%d): %v, %v, not %v, %v", now, got, e, want, fault)
	}
	for _, entry := range got {
		s.told[entry.Ticket]++
		if s.told[entry.Ticket] > 1 || entry.At > now {
			t.Fatalf("Take(%d): %v for the %d. time", now, entry, s.told[entry.Ticket])
		}
	}
	if first, is := s.a.First(); is && e == api.OK && first.At <= now {
		t.Fatalf("behind Take(%d) is %v", now, first)
	}
}

// step does one thing, and looks at what there is then.
func (s *script) step(t *testing.T, rare int) {
	t.Helper()
	switch kind := s.source.Intn(20); {
	case kind < 10:
		s.put(t)
	case kind < 13:
		ticket := s.ticket()
		was, e := s.a.Drop(ticket)
		if want, fault := s.p.drop(ticket); was != want || e != fault {
			t.Fatalf("Drop(%d): %v, %v, not %v, %v", ticket, was, e, want, fault)
		}
	case kind < 18:
		ticket, at := s.ticket(), s.moment()
		moves(t, s.a, ticket, at, s.p.move(ticket, at))
	case s.source.Intn(rare) == 0:
		s.take(t)
	}
	var first agenda.Entry
	if all := s.p.due(api.MaxBig); len(all) > 0 {
		first = all[0]
	}
	has(t, s.a, len(s.p.all), first)
	s.most = max(s.most, len(s.p.all))
}

// 13.3: each entry is told once at most, and not ahead of its moment; behind Take none is left that is due. And all calls
// answer what 13.1 and 13.2 say, in whichever order they come.
func TestScripts(t *testing.T) {
	most := 0
	for seed := range int64(40) {
		s := script{source: rand.New(rand.NewSource(seed)), a: agenda.New(), told: map[int]int{}}
		s.span = []int{1, 4, 50, 1000, api.MaxBig}[seed%5]
		rare := []int{1, 10, 1000}[seed%3]
		for range 1500 {
			s.step(t, rare)
		}
		takes(t, s.a, api.MaxBig, s.p.due(api.MaxBig)...)
		empty(t, s.a)
		most = max(most, s.most)
	}
	if most < 300 {
		t.Errorf("no more than %d entries at once", most)
	}
}

// P1: whatever is called, in whichever order, an agenda answers as the plain one does.
func FuzzCalls(f *testing.F) {
	f.Add([]byte{0, 9, 0, 3, 0, 9, 3, 9})
	f.Add([]byte{0, 9, 0, 3, 2, 0x11, 1, 2, 3, 200, 3, 255})
	f.Fuzz(func(t *testing.T, calls []byte) {
		a, p := agenda.New(), plain{}
		for len(calls) >= 2 {
			kind, n := calls[0]%4, int(calls[1])-8
			calls = calls[2:]
			switch kind {
			case 0:
				got, e := a.Put(n, "x")
				if want, fault := p.put(n, "x"); got != want || e != fault {
					t.Fatalf("Put(%d): %d, %v, not %d, %v", n, got, e, want, fault)
				}
			case 1:
				was, fault := p.drop(n)
				drops(t, a, n, was, fault)
			case 2:
				moves(t, a, n/8, n%8, p.move(n/8, n%8))
			case 3:
				got, e := a.Take(n)
				if want, fault := p.take(n); !slices.Equal(got, want) || e != fault {
					t.Fatalf("Take(%d): %v, %v, not %v, %v", n, got, e, want, fault)
				}
			}
		}
		takes(t, a, api.MaxBig, p.due(api.MaxBig)...)
	})
}

// R3: a text is not kept as it was handed in: what becomes of its memory later is nobody's concern.
func TestTextIsNotKept(t *testing.T) {
	a, memory := agenda.New(), []byte("a text")
	puts(t, a, 4, unsafe.String(&memory[0], len(memory)), 1)
	clear(memory)
	has(t, a, 1, entry(1, 4, "a text"))
	takes(t, a, 4, entry(1, 4, "a text"))
}

// R3: the text that First tells is nobody's else.
func TestFirstIsNew(t *testing.T) {
	a := agenda.New()
	puts(t, a, 4, strings.Repeat("a text", 2), 1)
	one, _ := a.First()
	two, _ := a.First()
	all, _ := a.Take(4)
	texts := []string{one.What, two.What, all[0].What}
	for i, text := range texts {
		for _, other := range texts[:i] {
			if unsafe.StringData(text) == unsafe.StringData(other) {
				t.Errorf("two texts are one memory")
			}
		}
	}
}

// R3: a list that was told is nobody's else, spare room too.
func TestListsAreNew(t *testing.T) {
	a := filled(t, 1, 2, 3, 4, 5, 6, 7, 8)
	told, _ := a.Take(3)
	for i := range told[:cap(told)] {
		told[:cap(told)][i] = entry(99, 0, "other")
	}
	has(t, a, 5, entry(4, 4, "4"))
	puts(t, a, 4, "9", 9)
	takes(t, a, 5, entry(4, 4, "4"), entry(9, 4, "9"), entry(5, 5, "5"))
	takes(t, a, 9, entry(6, 6, "6"), entry(7, 7, "7"), entry(8, 8, "8"))
}
