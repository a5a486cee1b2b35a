package oracle_test

import (
	"math"
	"slices"
	"strings"
	"testing"

	"wardmote/api"
	"wardmote/curve"
	"wardmote/oracle"
	"wardmote/queue"
	"wardmote/schnorr"
)

// What Known tells.
const (
	nothing = 0
	waits   = 1
	done    = 2
	unclear = 3
)

// secret is that of the public point.
var secret = api.Num{77}

// public is the public point.
func public() api.Point {
	y, _ := schnorr.Public(secret)
	return y
}

// sigOf is a signature of a message; each nonce makes another one.
func sigOf(m string, nonce uint64) api.Sig {
	s, _ := schnorr.Sign(secret, api.Num{nonce}, m)
	return s
}

// request is one.
func request(id int, m string) queue.Request { return queue.Request{ID: id, M: m} }

// asked is a request that was submitted, and its answer.
func asked(id int, m string, answer int) oracle.Event {
	return oracle.Event{Kind: oracle.Asked, Answer: answer, R: request(id, m)}
}

// told is one that is done.
func told(id int, m string, s api.Sig) oracle.Event {
	return oracle.Event{Kind: oracle.Asked, Answer: queue.Done, R: request(id, m), Sig: s}
}

// replied is a reply.
func replied(id int, m string, s api.Sig) oracle.Event {
	return oracle.Event{Kind: oracle.Replied, R: request(id, m), Sig: s}
}

// opened is a node that is opened again.
func opened(l ...queue.Request) oracle.Event { return oracle.Event{Kind: oracle.Opened, L: l} }

// list is events one behind another.
func list(parts ...[]oracle.Event) []oracle.Event { return slices.Concat(parts...) }

// one is a list of some events.
func one(l ...oracle.Event) []oracle.Event { return l }

// filled are so many requests that are accepted, of the IDs from some one on.
func filled(from, count int) []oracle.Event {
	var out []oracle.Event
	for id := from; id < from+count; id++ {
		out = append(out, asked(id, "w", queue.Accepted))
	}
	return out
}

// breaks looks for the rule that a list breaks by its last event; 0: none is broken.
func breaks(t *testing.T, rule int, l []oracle.Event) {
	t.Helper()
	at := 0
	if rule != 0 {
		at = len(l) - 1
	}
	if got, where, e := oracle.Check(public(), l); got != rule || where != at || e != api.OK {
		t.Errorf("%+v: rule %d at %d, %v, not %d at %d", l, got, where, e, rule, at)
	}
}

// knows looks for what is known of an ID behind events that keep all rules.
func knows(t *testing.T, l []oracle.Event, id, want int) {
	t.Helper()
	breaks(t, 0, l)
	if got := oracle.Known(public(), l, id); got != want {
		t.Errorf("%+v: known of %d: %d, not %d", l, id, got, want)
	}
}

// long has one byte more than a message may have.
var long = strings.Repeat("m", api.MaxText+1)

// noRequests are none.
func noRequests() []queue.Request {
	out := []queue.Request{request(1, long)}
	for _, id := range []int{0, -1, math.MinInt, api.MaxBig + 1, math.MaxInt, 1 - 1<<32} {
		out = append(out, request(id, "a"), request(id, ""), request(id, long))
	}
	return out
}

// 25.1: the example of the chapter.
func TestExample(t *testing.T) {
	s := sigOf("a", 5)
	knows(t, one(asked(1, "a", queue.Accepted), replied(1, "a", s), told(1, "a", s)), 1, done)
}

// 25.1, rule 1: each kind is one of three, and an answer from 0 to 4.
func TestKind(t *testing.T) {
	if oracle.Asked != 1 || oracle.Replied != 2 || oracle.Opened != 3 {
		t.Error("the kinds")
	}
	for _, kind := range []int{0, 4, 5, -1, 1 + 1<<32, 2 - 1<<32, math.MaxInt, math.MinInt} {
		e := asked(1, "a", queue.Accepted)
		e.Kind = kind
		breaks(t, 1, one(e))
		breaks(t, 1, one(opened(), e))
	}
	for _, answer := range []int{-1, 5, 6, 1 + 1<<32, -1 << 32, math.MaxInt, math.MinInt} {
		breaks(t, 1, one(asked(1, "a", answer)))
		breaks(t, 1, one(asked(0, "a", answer)))
		breaks(t, 1, one(asked(1, "a", queue.Accepted), asked(1, "b", answer)))
		// Of the others an answer has no meaning.
		r, o := replied(1, "a", sigOf("a", 5)), opened()
		r.Answer, o.Answer = answer, answer
		breaks(t, 0, one(asked(1, "a", queue.Accepted), o, r))
	}
}

// A scene is what was seen of the ID 1, and what may be seen next.
type scene struct {
	name   string
	l      []oracle.Event
	state  int
	answer [2][5]bool // by own message and another one: the answers that keep the rules, while there is room
	reply  [2]bool    // likewise the reply
	open   [2]bool    // likewise that it waits when the node is opened
}

// scenes are all states of an ID.
func scenes() []scene {
	s := sigOf("a", 5)
	no, yes := [2]bool{}, [2]bool{true, false}
	// By 0, Accepted, Busy, Reject, Done.
	never := [2][5]bool{{true, true}, {true, true}}
	doubtful := [2][5]bool{{true, true, false, false, true}, {true, true, false, true}}
	waiting := [2][5]bool{{true, true}, {true, false, false, true}}
	ended := [2][5]bool{{true, false, false, false, true}, {true, false, false, true}}
	return []scene{
		{"nothing", nil, nothing, never, no, no},
		{"cut, beside another", one(asked(1, "a", 0), opened(), asked(2, "b", queue.Accepted)), unclear, doubtful, yes, yes},
		{"waits", one(asked(1, "a", queue.Accepted)), waits, waiting, yes, yes},
		{"waits again", one(asked(1, "a", queue.Accepted), opened(request(1, "a"))), waits, waiting, yes, yes},
		{"cut, then it waits", one(asked(1, "a", 0), opened(request(1, "a"))), waits, waiting, yes, yes},
		{"cut, then accepted", one(asked(1, "b", 0), opened(), asked(1, "a", queue.Accepted)), waits, waiting, yes, yes},
		{"replied", one(asked(1, "a", queue.Accepted), replied(1, "a", s)), done, ended, no, no},
		{"replied, opened", one(asked(1, "a", queue.Accepted), replied(1, "a", s), opened()), done, ended, no, no},
		{"lost, then done", one(asked(1, "a", queue.Accepted), opened(), told(1, "a", s)), done, ended, no, no},
		{"lost, then replied", one(asked(1, "a", queue.Accepted), opened(), replied(1, "a", s)), done, ended, no, no},
		{"cut", one(asked(1, "a", 0)), unclear, doubtful, yes, yes},
		{"cut twice", one(asked(1, "a", 0), opened(), asked(1, "b", 0)), unclear, doubtful, yes, yes},
		{"lost", one(asked(1, "a", queue.Accepted), opened()), unclear, doubtful, yes, yes},
		{"lost, then cut", one(asked(1, "a", queue.Accepted), opened(), asked(1, "b", 0)), unclear, doubtful, yes, yes},
	}
}

// 25.1, rules 2 to 5: of each state of an ID, what may be seen next.
func TestNext(t *testing.T) {
	for _, c := range scenes() {
		t.Run(c.name, func(t *testing.T) {
			knows(t, c.l, 1, c.state)
			for i, m := range []string{"a", "b"} {
				s := sigOf(m, 5)
				for answer, right := range c.answer[i] {
					e := asked(1, m, answer)
					e.Sig = s
					breaks(t, ruleUnless(right, 2), list(c.l, one(e)))
				}
				breaks(t, ruleUnless(c.reply[i], 4), list(c.l, one(replied(1, m, s))))
				breaks(t, ruleUnless(c.open[i], 5), list(c.l, one(opened(request(1, m)))))
			}
			breaks(t, 0, list(c.l, one(opened())))
		})
	}
}

// ruleUnless is a rule, or none.
func ruleUnless(right bool, rule int) int {
	if right {
		return 0
	}
	return rule
}

// 25.1, rule 2: no request is but rejected; if the power goes, nothing is known of it.
func TestNoRequest(t *testing.T) {
	for _, r := range noRequests() {
		for answer := range 5 {
			right := answer == 0 || answer == queue.Reject
			for _, ahead := range [][]oracle.Event{nil, filled(11, 8), one(asked(1, "a", queue.Accepted)), one(asked(1, "a", 0))} {
				l := list(ahead, one(asked(r.ID, r.M, answer)))
				l[len(l)-1].Sig = sigOf("a", 5)
				breaks(t, ruleUnless(right, 2), l)
			}
		}
		knows(t, one(asked(r.ID, r.M, 0)), r.ID, nothing)
		knows(t, one(asked(r.ID, r.M, queue.Reject)), r.ID, nothing)
		breaks(t, 4, one(asked(r.ID, r.M, 0), replied(r.ID, r.M, sigOf(r.M, 5))))
		breaks(t, 5, one(asked(r.ID, r.M, 0), opened(r)))
	}
	for _, id := range []int{1, 2, api.MaxBig} {
		m := long[1:]
		knows(t, one(asked(id, m, queue.Accepted)), id, waits)
		knows(t, one(asked(id, m, 0)), id, unclear)
		breaks(t, 2, one(asked(id, m, queue.Reject)))
	}
}

// 25.1, rule 2: eight wait, and no more; one is busy only then.
func TestRoom(t *testing.T) {
	for count := range 9 {
		full := ruleUnless(count < 8, 2)
		free := ruleUnless(count == 8, 2)
		for _, ahead := range [][]oracle.Event{nil, one(asked(1, "a", 0)), one(asked(1, "a", queue.Accepted), opened())} {
			l := list(ahead, filled(11, count))
			breaks(t, full, list(l, one(asked(1, "a", queue.Accepted))))
			breaks(t, full, list(l, one(asked(1, "b", queue.Accepted))))
			breaks(t, free, list(l, one(asked(1, "a", queue.Busy))))
			breaks(t, free, list(l, one(asked(1, "b", queue.Busy))))
			breaks(t, 0, list(l, one(asked(1, "a", 0))))
		}
	}
	// Those that wait are accepted beside any others, and are not busy; done is done.
	l := filled(11, 8)
	for id := 11; id < 19; id++ {
		breaks(t, 0, list(l, one(asked(id, "w", queue.Accepted))))
		breaks(t, 2, list(l, one(asked(id, "w", queue.Busy))))
		breaks(t, 2, list(l, one(asked(id, "v", queue.Busy))))
		s := sigOf("w", uint64(id))
		after := list(l, one(replied(id, "w", s)))
		breaks(t, 2, list(after, one(asked(id, "w", queue.Busy))))
		breaks(t, 2, list(after, one(asked(1, "a", queue.Busy))))
		again := list(after, one(asked(1, "a", queue.Accepted)))
		breaks(t, 0, list(again, one(asked(2, "a", queue.Busy))))
		breaks(t, 2, list(again, one(asked(2, "a", queue.Accepted))))
		breaks(t, 0, list(again, one(told(id, "w", s))))
	}
	// One that is accepted again takes no more room.
	twice := list(filled(11, 7), filled(11, 7), one(asked(18, "w", queue.Accepted)))
	breaks(t, 0, list(twice, one(asked(19, "w", queue.Busy))))
	// Those that are unclear do not wait.
	lost := list(l, one(opened(request(11, "w"))), filled(21, 7))
	knows(t, lost, 12, unclear)
	breaks(t, 0, list(lost, one(asked(1, "a", queue.Busy))))
	breaks(t, 2, list(lost, one(asked(12, "w", queue.Accepted))))
	// That one of these is done, too, makes no room.
	breaks(t, 2, list(lost, one(told(12, "w", sigOf("w", 5)), asked(1, "a", queue.Accepted))))
	breaks(t, 2, list(lost, one(replied(12, "w", sigOf("w", 5)), asked(1, "a", queue.Accepted))))
}

// wrongSigs are signatures that do not hold for a message.
func wrongSigs(m string) []api.Sig {
	s := sigOf(m, 5)
	other, _ := schnorr.Sign(api.Num{78}, api.Num{5}, m)
	z, r, inf, off := s, s, s, s
	z.Z[0]++
	r.R = curve.G()
	inf.R = api.Point{Inf: true}
	off.R.Y[0]++
	return []api.Sig{{}, sigOf(m+".", 5), other, z, r, inf, off}
}

// 25.1, rules 2 and 4: a signature holds for the message; of what is done it is that one.
func TestSig(t *testing.T) {
	for _, m := range []string{"", "a", long[1:]} {
		in := one(asked(1, m, queue.Accepted))
		lost := list(in, one(opened()))
		cut := one(asked(1, m, 0))
		first, second := sigOf(m, 5), sigOf(m, 6)
		for _, s := range wrongSigs(m) {
			breaks(t, 4, list(in, one(replied(1, m, s))))
			breaks(t, 4, list(lost, one(replied(1, m, s))))
			breaks(t, 2, list(lost, one(told(1, m, s))))
			breaks(t, 2, list(cut, one(told(1, m, s))))
			breaks(t, 2, list(in, one(replied(1, m, first), told(1, m, s))))
		}
		for _, ahead := range [][]oracle.Event{list(in, one(replied(1, m, first))), list(lost, one(told(1, m, first)))} {
			breaks(t, 0, list(ahead, one(told(1, m, first))))
			breaks(t, 2, list(ahead, one(told(1, m, second))))
			breaks(t, 4, list(ahead, one(replied(1, m, first))))
		}
	}
}

// 25.1, rule 5: those that wait when a node is opened are at most eight, each once, all unclear.
func TestOpened(t *testing.T) {
	var eight []queue.Request
	for id := 11; id < 19; id++ {
		eight = append(eight, request(id, "w"))
	}
	l := filled(11, 8)
	for count := range 9 {
		after := list(l, one(opened(eight[:count]...)))
		for i, r := range eight {
			want := unclear
			if i < count {
				want = waits
			}
			knows(t, after, r.ID, want)
		}
		// What is unclear once is so until it is told.
		breaks(t, 0, list(after, one(opened(eight...))))
		knows(t, list(after, one(opened())), 11, unclear)
	}
	backwards := slices.Clone(eight)
	slices.Reverse(backwards)
	breaks(t, 0, list(l, one(opened(backwards...))))
	breaks(t, 5, list(l, one(opened(append(slices.Clone(eight[:7]), eight[0])...))))
	breaks(t, 5, list(l, one(opened(append(slices.Clone(eight[:7]), request(1, "w"))...))))
	breaks(t, 5, list(l, one(opened(append(slices.Clone(eight[:7]), request(18, "v"))...))))
	// A ninth is one too many, although it is unclear.
	nine := list(l, one(asked(19, "w", 0), opened(append(slices.Clone(eight), request(19, "w"))...)))
	breaks(t, 5, nine)
	breaks(t, 0, list(nine[:9], one(opened(append(slices.Clone(eight[1:]), request(19, "w"))...))))
	// As many as there are, though none is known.
	breaks(t, 5, one(opened(slices.Repeat(eight, 200)...)))
}

// 25.1: fields without a meaning in an event are not looked at.
func TestOtherFields(t *testing.T) {
	s := sigOf("a", 5)
	l := one(asked(1, "a", queue.Accepted), asked(1, "b", queue.Reject), asked(2, "c", 0), opened(request(1, "a")), replied(1, "a", s))
	for i := range l {
		if l[i].Kind != oracle.Opened {
			l[i].L = []queue.Request{request(0, long), request(9, "x")}
		} else {
			l[i].R, l[i].Sig = request(0, long), s
		}
		if l[i].Kind == oracle.Asked {
			l[i].Sig = api.Sig{R: api.Point{Inf: true}, Z: api.Num{3}}
		}
	}
	knows(t, l, 1, done)
	knows(t, l, 2, unclear)
	knows(t, l, 9, nothing)
}

// 25.1: the errors, and their order.
func TestErrors(t *testing.T) {
	off := public()
	off.X[0]++
	great := public()
	great.X = api.Num{math.MaxUint64, math.MaxUint64, math.MaxUint64, math.MaxUint64}
	infAndMore := public()
	infAndMore.Inf = true
	for _, y := range []api.Point{{}, {Inf: true}, {X: api.Num{1}, Inf: true}, off, great, infAndMore} {
		for _, l := range [][]oracle.Event{nil, one(opened()), make([]oracle.Event, 2001), one(oracle.Event{})} {
			if rule, at, e := oracle.Check(y, l); rule != 0 || at != 0 || e != api.ErrCurve {
				t.Errorf("%v: %d, %d, %v", y, rule, at, e)
			}
		}
		if n := oracle.Known(y, one(asked(1, "a", queue.Accepted)), 1); n != 0 {
			t.Errorf("%v: known: %d", y, n)
		}
	}
	full := make([]oracle.Event, 2000)
	for i := range full {
		full[i] = asked(1, "a", queue.Accepted)
	}
	knows(t, full, 1, waits)
	for _, count := range []int{2001, 2002, 4001} {
		l := slices.Repeat(full, 3)[:count]
		if rule, at, e := oracle.Check(public(), l); rule != 0 || at != 0 || e != api.ErrLong {
			t.Errorf("%d events: %d, %d, %v", count, rule, at, e)
		}
		if n := oracle.Known(public(), l, 1); n != 0 {
			t.Errorf("%d events: known: %d", count, n)
		}
	}
	full[1999] = oracle.Event{}
	breaks(t, 1, full)
	breaks(t, 0, nil)
	breaks(t, 0, []oracle.Event{})
}

// 25.1: Known is 0 behind a rule that is broken, and of IDs of which nothing is known.
func TestKnown(t *testing.T) {
	l := one(asked(1, "a", queue.Accepted), asked(2, "b", 0), asked(3, "", queue.Accepted), replied(3, "", sigOf("", 5)))
	for id, want := range map[int]int{
		1: waits, 2: unclear, 3: done, 0: nothing, 4: nothing, -1: nothing, math.MinInt: nothing, math.MaxInt: nothing, 1 + 1<<32: nothing,
	} {
		knows(t, l, id, want)
		for _, e := range []oracle.Event{{}, replied(9, "a", sigOf("a", 5)), opened(request(9, "a")), asked(9, "a", queue.Done)} {
			if n := oracle.Known(public(), list(l, one(e)), id); n != 0 {
				t.Errorf("known of %d: %d", id, n)
			}
			if n := oracle.Known(public(), list(one(e), l), id); n != 0 {
				t.Errorf("known of %d: %d", id, n)
			}
		}
	}
}

// 25.1: the first event that breaks a rule counts.
func TestFirst(t *testing.T) {
	l := one(opened(), asked(1, "a", queue.Busy), oracle.Event{}, replied(1, "a", api.Sig{}))
	if rule, at, e := oracle.Check(public(), l); rule != 2 || at != 1 || e != api.OK {
		t.Errorf("%d, %d, %v", rule, at, e)
	}
}
