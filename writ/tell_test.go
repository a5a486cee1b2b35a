package writ_test

import (
	"fmt"
	"math"
	"math/big"
	"math/rand"
	"strings"
	"testing"

	"wardmote/api"
	"wardmote/curve"
	"wardmote/oracle"
	"wardmote/queue"
	"wardmote/writ"
)

// tells looks for an event's line.
func tells(t *testing.T, i int, e oracle.Event, want string) {
	t.Helper()
	if got, errno := writ.Tell(i, e); got != want || errno != api.OK {
		t.Errorf("Tell(%d, %+v): %q, %v, not %q", i, e, got, errno, want)
	}
}

// signed is a signature with a number.
func signed(z api.Num) api.Sig { return api.Sig{R: curve.G(), Z: z} }

// asked is an event.
func asked(id int, m string, answer int, s api.Sig) oracle.Event {
	return oracle.Event{Kind: oracle.Asked, Answer: answer, R: queue.Request{ID: id, M: m}, Sig: s}
}

// replied is an event.
func replied(id int, m string, s api.Sig) oracle.Event {
	return oracle.Event{Kind: oracle.Replied, R: queue.Request{ID: id, M: m}, Sig: s}
}

// opened is an event.
func opened(ids ...int) oracle.Event {
	e := oracle.Event{Kind: oracle.Opened}
	for _, id := range ids {
		e.L = append(e.L, queue.Request{ID: id, M: fmt.Sprint(id)})
	}
	return e
}

// noughts are so many.
func noughts(count int) string { return strings.Repeat("0", count) }

// 27.2: a request that was submitted; its signature's number is told of Done alone.
func TestAsked(t *testing.T) {
	tells(t, 1, asked(7, "m", queue.Accepted, api.Sig{}), "asked 1 7 6d 1 .")
	tells(t, 2, asked(7, "", queue.Busy, api.Sig{}), "asked 2 7 . 2 .")
	tells(t, 3, asked(-7, ".", queue.Reject, api.Sig{}), "asked 3 -7 2e 3 .")
	tells(t, 4, asked(0, "\x00\n", 0, api.Sig{}), "asked 4 0 000a 0 .")
	tells(t, 10, asked(1<<40, "\xff", queue.Done, signed(api.Num{0xab})), "asked 10 1099511627776 ff 4 "+noughts(62)+"ab")
	tells(t, 1, asked(7, "m", queue.Done, api.Sig{}), "asked 1 7 6d 4 "+noughts(64))
	z := api.Num{1, 2, 3, 0xfedcba9876543210}
	for _, answer := range []int{0, 1, 2, 3, 5, 6, -1, 4 + 1<<32, 4 - 1<<32, math.MaxInt, math.MinInt} {
		tells(t, 1, asked(7, "m", answer, signed(z)), fmt.Sprintf("asked 1 7 6d %d .", answer))
	}
	tells(t, 1, asked(7, "m", 4, signed(z)), "asked 1 7 6d 4 fedcba9876543210"+noughts(15)+"3"+noughts(15)+"2"+noughts(15)+"1")
}

// 27.2: a reply.
func TestReplied(t *testing.T) {
	tells(t, 1, replied(7, "m", signed(api.Num{0x10})), "replied 1 7 6d "+noughts(62)+"10")
	tells(t, 9, replied(1, "", api.Sig{}), "replied 9 1 . "+noughts(64))
	tells(t, -1, replied(-1, "\x80", signed(api.Num{3: 1 << 63})), "replied -1 -1 80 8"+noughts(63))
	top := api.Num{math.MaxUint64, math.MaxUint64, math.MaxUint64, math.MaxUint64}
	tells(t, 0, replied(0, "a b", signed(top)), "replied 0 0 612062 "+strings.Repeat("f", 64))
	e := replied(7, "m", signed(api.Num{1}))
	for e.Answer = range 6 {
		tells(t, 1, e, "replied 1 7 6d "+noughts(63)+"1")
	}
}

// 27.2: a node that was opened, and those that wait.
func TestOpened(t *testing.T) {
	tells(t, 2, opened(5), "opened 2 5")
	tells(t, 2, opened(), "opened 2")
	tells(t, 2, oracle.Event{Kind: oracle.Opened, L: []queue.Request{}}, "opened 2")
	tells(t, 10, opened(3, 1, 2, 1), "opened 10 3 1 2 1")
	tells(t, math.MinInt, opened(0, -1, math.MaxInt), "opened -9223372036854775808 0 -1 9223372036854775807")
	tells(t, 1, opened(make([]int, 3000)...), "opened 1"+strings.Repeat(" 0", 3000))
}

// 27.2: what has no meaning in an event is not told.
func TestUntold(t *testing.T) {
	full := oracle.Event{Answer: 4, R: queue.Request{ID: 9, M: "x"}, Sig: signed(api.Num{5}), L: []queue.Request{{ID: 3, M: "y"}}}
	full.Kind = oracle.Asked
	tells(t, 1, full, "asked 1 9 78 4 "+noughts(63)+"5")
	full.Kind = oracle.Replied
	tells(t, 1, full, "replied 1 9 78 "+noughts(63)+"5")
	full.Kind = oracle.Opened
	tells(t, 1, full, "opened 1 3")
}

// 27.2: a kind that is none.
func TestNoEvent(t *testing.T) {
	for _, kind := range []int{0, -1, -3, 4, 5, 10, 1 + 1<<32, 2 - 1<<32, math.MaxInt, math.MinInt} {
		for _, e := range []oracle.Event{{}, asked(7, "m", 4, signed(api.Num{1})), opened(1, 2)} {
			e.Kind = kind
			if got, errno := writ.Tell(1, e); got != "" || errno != api.ErrForm {
				t.Errorf("kind %d: %q, %v", kind, got, errno)
			}
		}
	}
}

// plainTell is an event's line.
func plainTell(i int, e oracle.Event) string {
	limbs := new(big.Int)
	for at := 3; at >= 0; at-- {
		limbs.Or(limbs.Lsh(limbs, 64), new(big.Int).SetUint64(e.Sig.Z[at]))
	}
	z := fmt.Sprintf("%064x", limbs)
	switch e.Kind {
	case 1:
		if e.Answer != 4 {
			z = "."
		}
		return fmt.Sprintf("asked %d %d %s %d %s", i, e.R.ID, coded(e.R.M), e.Answer, z)
	case 2:
		return fmt.Sprintf("replied %d %d %s %s", i, e.R.ID, coded(e.R.M), z)
	}
	out := fmt.Sprintf("opened %d", i)
	for _, r := range e.L {
		out += fmt.Sprintf(" %d", r.ID)
	}
	return out
}

// 27.2: whatever an event has, its line is as a plain one.
func TestAnyEvent(t *testing.T) {
	source := rand.New(rand.NewSource(1))
	for range 3000 {
		e := oracle.Event{Kind: 1 + source.Intn(3), Answer: source.Intn(6), R: queue.Request{ID: anyNumber(source), M: anyText(source, 9)}}
		e.Sig.Z = api.Num{source.Uint64(), source.Uint64(), source.Uint64(), source.Uint64()}
		for range source.Intn(9) {
			e.L = append(e.L, queue.Request{ID: anyNumber(source), M: anyText(source, 9)})
		}
		i := anyNumber(source)
		tells(t, i, e, plainTell(i, e))
	}
}
