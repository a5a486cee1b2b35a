package bench

import (
	"strings"

	"wardmote/api"
	"wardmote/disk"
	"wardmote/dkg"
	"wardmote/node"
	"wardmote/oracle"
	"wardmote/queue"
)

// A seat is what there is of a node, whether it is up or not.
type seat struct {
	key  dkg.Key
	seed string
	file *disk.File
	node *node.Node // nil, when its life is over

	events []oracle.Event
	told   int         // how many of them Step told
	emits  []node.Emit // of lives that are over
	bad    int         // bit i - 1: node i was bad in one of them
}

// submit has its client submit a request.
func (s *seat) submit(r queue.Request) {
	if s.node.Up() {
		answer, sig := s.node.Submit(r)
		s.events = append(s.events, oracle.Event{Kind: oracle.Asked, Answer: answer, R: r, Sig: sig})
	}
}

// down has its power go, and the file crash. Of a file that crashed since the node was down all is synced, so that a further
// crash changes nothing.
func (s *seat) down(keep, mask int) {
	s.emits, s.bad = append(s.emits, s.node.Emits()...), s.blamed()
	s.node = nil
	length, synced := s.file.Len()
	if keep < 0 || keep > length-synced {
		keep = length - synced
	}
	if mask < 0 || mask > 255 {
		mask = 0
	}
	s.file.Crash(keep, mask)
}

// start opens the node again, if it is down.
func (s *seat) start() {
	if s.node.Up() {
		return
	}
	s.down(0, 0)
	if s.open() {
		s.events = append(s.events, oracle.Event{Kind: oracle.Opened, L: s.node.Waiting()})
	}
}

// open opens the node, whose life is over: whether there is room for a further one in its file.
func (s *seat) open() bool {
	x, e := node.Open(s.key, s.seed, s.file)
	if e != api.OK {
		return false
	}
	s.node = x
	return true
}

// saw are the events since it was asked last.
func (s *seat) saw() []oracle.Event {
	for _, r := range s.node.Replies() {
		s.events = append(s.events, oracle.Event{Kind: oracle.Replied, R: queue.Request{ID: r.ID, M: r.M}, Sig: r.Sig})
	}
	out := copies(s.events[s.told:])
	s.told = len(s.events)
	return out
}

// blamed are the nodes that it found bad, in all its lives, as bits.
func (s *seat) blamed() int {
	bad := s.bad
	for _, i := range s.node.Blamed() {
		bad |= 1 << (i - 1)
	}
	return bad
}

// isIn tells whether a node is one of those that bits tell.
func isIn(set, i int) bool { return set>>(i-1)&1 == 1 }

// copies are events that share no memory with these.
func copies(l []oracle.Event) []oracle.Event {
	var out []oracle.Event
	for _, e := range l {
		var waiting []queue.Request
		for _, r := range e.L {
			waiting = append(waiting, copyOf(r))
		}
		e.R, e.L = copyOf(e.R), waiting
		out = append(out, e)
	}
	return out
}

// copyOf is a request that shares no memory with this one.
func copyOf(r queue.Request) queue.Request { return queue.Request{ID: r.ID, M: strings.Clone(r.M)} }
