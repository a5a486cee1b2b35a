package roast

import (
	"wardmote/api"
	"wardmote/bind"
)

// What a node is.
const (
	idle  = iota // it told nothing yet, or the very last share
	ready        // its pair is in no session yet
	busy         // it is in a session, and did not tell its share
	bad
)

// A seat is what a coordinator has of a node.
type seat struct {
	state   int
	pair    bind.Pair // of one that is ready
	session int       // of one that is busy
}

// isBusyIn tells whether a node's share is missing in a session.
func (s *seat) isBusyIn(session int) bool { return s.state == busy && s.session == session }

// isOver tells whether nothing is taken any more. A coordinator that New did not make is as a nil one.
func (r *Roast) isOver() bool { return r == nil || r.n == 0 || r.whole != nil }

// has tells whether there is such a node.
func (r *Roast) has(node int) bool { return r != nil && 1 <= node && node <= r.n }

// those are the nodes in a state that is not idle, rising.
func (r *Roast) those(state int) []int {
	if r == nil {
		return nil
	}
	var out []int
	for node := range r.seats {
		if r.seats[node].state == state {
			out = append(out, node)
		}
	}
	return out
}

// offer has the pair's node be ready, or bad, if it is none: the session that is opened, if so many are ready now.
func (r *Roast) offer(p bind.Pair) (Session, bool, api.Errno) {
	if e := bind.Check([]bind.Pair{p}); e != api.OK {
		r.seats[p.Node] = seat{state: bad}
		return Session{}, false, e
	}
	r.seats[p.Node] = seat{state: ready, pair: p}
	nodes := r.those(ready)
	if len(nodes) <= r.f {
		return Session{}, false, api.OK
	}
	return r.open(nodes), true, api.OK
}

// open opens a session of nodes that are ready.
func (r *Roast) open(nodes []int) Session {
	s := Session{Number: len(r.sessions) + 1}
	for _, node := range nodes {
		s.L = append(s.L, r.seats[node].pair)
	}
	x, e := r.begin(s.L)
	r.sessions = append(r.sessions, x)
	then := seat{state: busy, session: s.Number}
	// All was checked but the sum of the nonces: where that is the point at infinity, there is no gathering.
	if e != api.OK {
		then = seat{state: bad}
	}
	for _, node := range nodes {
		r.seats[node] = then
	}
	return s
}
