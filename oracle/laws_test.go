package oracle_test

import (
	"math/rand"
	"slices"
	"testing"

	"wardmote/api"
	"wardmote/oracle"
	"wardmote/queue"
)

// A past is events that keep all rules. What is known is worked out anew of all of them, whenever it is asked.
type past []oracle.Event

// state is what is known of an ID: the state, the message, the signature of what is done.
func (p past) state(id int) (int, string, api.Sig) {
	state, m, sig := nothing, "", api.Sig{}
	for _, e := range p {
		its := e.R.ID == id
		switch {
		case e.Kind == oracle.Opened:
			if state == waits {
				state = unclear
			}
			if slices.Contains(e.L, request(id, m)) {
				state = waits
			}
		case its && e.Kind == oracle.Replied, its && e.Answer == queue.Done:
			state, m, sig = done, e.R.M, e.Sig
		case its && e.Answer == queue.Accepted:
			state, m = waits, e.R.M
		case its && e.Answer == 0 && state == nothing && is(e.R):
			state, m = unclear, e.R.M
		}
	}
	return state, m, sig
}

// is tells whether a request is one.
func is(r queue.Request) bool { return r.ID > 0 && r.ID <= 1<<40 && len(r.M) < 4097 }

// waiting is how many wait, of IDs below 20.
func (p past) waiting() int {
	count := 0
	for id := range 20 {
		if state, _, _ := p.state(id); state == waits {
			count++
		}
	}
	return count
}

// holding are the messages of signatures that hold.
type holding map[api.Sig]string

// holds tells whether a signature does.
func (h holding) holds(m string, s api.Sig) bool {
	its, known := h[s]
	return known && its == m
}

// rule is the one that a further event breaks, or 0.
func (p past) rule(h holding, e oracle.Event) int {
	state, m, sig := p.state(e.R.ID)
	same := state != nothing && m == e.R.M
	fresh := is(e.R) && (state == nothing || state == unclear)
	switch {
	case e.Kind < 1, e.Kind > 3, e.Kind == oracle.Asked && (e.Answer < 0 || e.Answer > 4):
		return 1
	case e.Kind == oracle.Opened:
		return ruleUnless(p.mayOpen(e.L), 5)
	case e.Kind == oracle.Replied:
		return ruleUnless(same && state != done && h.holds(m, e.Sig), 4)
	}
	right := [5]bool{
		0:              true,
		queue.Accepted: same && state == waits || fresh && p.waiting() < 8,
		queue.Busy:     fresh && p.waiting() == 8,
		queue.Reject:   !is(e.R) || state != nothing && !same,
		queue.Done:     same && (state == done && sig == e.Sig || state == unclear && h.holds(m, e.Sig)),
	}
	return ruleUnless(right[e.Answer], 2)
}

// mayOpen tells whether requests may wait in a node that is opened.
func (p past) mayOpen(l []queue.Request) bool {
	for i, r := range l {
		state, m, _ := p.state(r.ID)
		if m != r.M || state != waits && state != unclear || slices.Contains(l[:i], r) {
			return false
		}
	}
	return len(l) <= 8
}

// A teller tells events.
type teller struct {
	source *rand.Rand
	sigs   []api.Sig
	h      holding
	ids    int
}

// tellerOf is one whose requests are of some IDs.
func tellerOf(seed int64, ids int) *teller {
	x := &teller{source: rand.New(rand.NewSource(seed)), sigs: []api.Sig{{}}, h: holding{}, ids: ids}
	for _, m := range []string{"", "a", "b"} {
		for nonce := range uint64(2) {
			s := sigOf(m, nonce+1)
			x.h[s] = m
			x.sigs = append(x.sigs, s)
		}
	}
	return x
}

// event is any.
func (x *teller) event() oracle.Event {
	n := x.source.Intn
	e := oracle.Event{Kind: 1 + n(3), Answer: []int{1, 1, 1, 1, 0, 2, 3, 4, 4, 4}[n(10)], R: x.request(), Sig: x.sigs[n(len(x.sigs))]}
	if n(40) == 0 {
		e.Kind, e.Answer = n(6)-1, n(9)-2
	}
	if e.Kind == oracle.Opened {
		for range n(4) {
			e.L = append(e.L, x.request())
		}
	}
	return e
}

// request is any.
func (x *teller) request() queue.Request {
	n := x.source.Intn
	return request(n(x.ids+1), []string{"a", "a", "b", "", long}[n(n(4)+2)])
}

// next is an event that keeps all rules behind a past.
func (x *teller) next(p past) oracle.Event {
	for {
		e := x.event()
		if e.Kind == oracle.Opened && (len(p) < 6 || x.source.Intn(12) > 0) {
			continue
		}
		if e.Kind == oracle.Opened && x.source.Intn(3) > 0 {
			e.L = x.lasting(p)
		}
		if p.rule(x.h, e) == 0 {
			return e
		}
	}
}

// lasting are most of those that wait.
func (x *teller) lasting(p past) []queue.Request {
	var out []queue.Request
	for id := range 20 {
		if state, m, _ := p.state(id); (state == waits || state == unclear) && x.source.Intn(5) > 0 && len(out) < 8 {
			out = append(out, request(id, m))
		}
	}
	return out
}

// 25.1 to 25.3: whatever was seen, the first rule that is broken, and what is known, are as of one that works out all anew;
// what is done is so for ever.
func TestAnyEvents(t *testing.T) {
	seen := [6]int{}
	for seed := range int64(60) {
		x := tellerOf(seed, 6+int(seed)%10)
		var p past
		for range 40 {
			p = append(p, x.next(p))
		}
		breaks(t, 0, p)
		for range 5 {
			id := x.source.Intn(x.ids+3) - 1
			state, _, _ := p.state(id)
			if got := oracle.Known(public(), p, id); got != state {
				t.Fatalf("%+v: known of %d: %d, not %d", p, id, got, state)
			}
		}
		for range 8 {
			e := x.event()
			rule := p.rule(x.h, e)
			breaks(t, rule, append(slices.Clone(p), e))
			seen[rule]++
		}
	}
	if slices.Min(seen[:3]) < 5 || slices.Min(seen[4:]) < 5 {
		t.Errorf("not much came about: %v", seen)
	}
}

// 25.2: a beginning breaks none. 25.3: what is done stays done, with its signature.
func TestBeginnings(t *testing.T) {
	for seed := range int64(4) {
		x := tellerOf(seed, 8)
		var p past
		ended := map[int]oracle.Event{}
		for i := range 40 {
			e := x.next(p)
			p = append(p, e)
			breaks(t, 0, p)
			if e.Kind == oracle.Replied || e.Kind == oracle.Asked && e.Answer == queue.Done {
				ended[e.R.ID] = e
			}
			if i%10 != 9 {
				continue
			}
			for id, end := range ended {
				knows(t, p, id, done)
				breaks(t, 0, append(slices.Clone(p), told(id, end.R.M, end.Sig)))
				if !x.h.holds(end.R.M, end.Sig) {
					t.Fatalf("%d is done with a signature that does not hold", id)
				}
			}
		}
	}
}

// R3, R6: events are not changed, nor the memory behind them.
func TestKeepsEvents(t *testing.T) {
	l := filled(11, 8)
	row := []queue.Request{request(18, "w"), request(11, "w"), request(12, "w"), request(99, "x")}
	l = append(l, opened(row[:3]...), replied(18, "w", sigOf("w", 5)))
	l = append(l, asked(77, "x", 0))[:10]
	was, wasRow := slices.Clone(l[:11]), slices.Clone(row)
	for range 2 {
		knows(t, l, 18, done)
	}
	for i := range was {
		if l[:11][i].Kind != was[i].Kind || l[:11][i].R != was[i].R || !slices.Equal(l[:11][i].L, was[i].L) {
			t.Errorf("event %d was changed", i)
		}
	}
	if !slices.Equal(row, wasRow) {
		t.Errorf("%v was changed", row)
	}
}

// P1: whatever the events are, both calls end.
func FuzzEvents(f *testing.F) {
	f.Add([]byte{1, 1, 1, 1, 2, 0, 1, 1, 3, 0, 1, 2})
	f.Fuzz(func(t *testing.T, b []byte) {
		var l []oracle.Event
		for ; len(b) >= 4; b = b[4:] {
			e := oracle.Event{Kind: int(b[0]), Answer: int(b[1]) - 1, R: request(int(b[2])-1, string(b[3:4]))}
			if b[3]%2 == 0 {
				e.Sig = sigOf(e.R.M, uint64(b[3])+1)
				e.L = append(e.L, e.R)
			}
			l = append(l, e)
		}
		rule, at, e := oracle.Check(public(), l)
		if e == api.OK && rule != 0 && (at >= len(l) || rule > 5 || rule == 3) {
			t.Errorf("rule %d at %d", rule, at)
		}
		oracle.Known(public(), l, 1)
	})
}
