package oracle

import (
	"slices"

	"wardmote/api"
	"wardmote/queue"
	"wardmote/schnorr"
)

// What is known of an ID.
const (
	nothing = iota
	waits
	done
	unclear // nobody can tell whether the node has it
)

// An entry is what is known of an ID.
type entry struct {
	state int
	m     string
	sig   api.Sig // of one that is done
}

// A book is what is known behind some events.
type book struct {
	public api.Point
	known  map[int]entry // by IDs
	row    []int         // the IDs of those that wait
}

// is tells whether an ID is known in a state, with a message.
func (k entry) is(state int, m string) bool { return k.state == state && k.m == m }

// mayBeNew tells whether the node may have nothing of an ID.
func (k entry) mayBeNew() bool { return k.state == nothing || k.state == unclear }

// isRequest tells whether a request is one: a queue without room rejects those alone that are none.
func isRequest(r queue.Request) bool {
	var full *queue.Queue
	answer, _ := full.Submit(r)
	return answer == queue.Busy
}

// isFull tells whether as many wait as may.
func (b *book) isFull() bool { return len(b.row) >= queue.Room }

// wait has a request wait.
func (b *book) wait(r queue.Request) {
	b.known[r.ID] = entry{state: waits, m: r.M}
	b.row = append(b.row, r.ID)
}

// end has a request be done, if its signature holds.
func (b *book) end(r queue.Request, s api.Sig) bool {
	if schnorr.Verify(b.public, r.M, s) != api.OK {
		return false
	}
	b.known[r.ID] = entry{state: done, m: r.M, sig: s}
	if at := slices.Index(b.row, r.ID); at >= 0 {
		b.row = slices.Delete(b.row, at, at+1)
	}
	return true
}

// doubt has all that wait be unclear.
func (b *book) doubt() {
	for _, id := range b.row {
		k := b.known[id]
		k.state = unclear
		b.known[id] = k
	}
	b.row = nil
}
