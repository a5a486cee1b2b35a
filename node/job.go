package node

import (
	"wardmote/api"
	"wardmote/note"
	"wardmote/roast"
)

const (
	jobSpan     = 1 << 16 // how many jobs' numbers there are in a life
	sessionSpan = 16      // how many sessions' numbers there are in a job
)

// A job is a request that is brought to its signature.
type job struct {
	name
	number int
	view   int
	roast  *roast.Roast
}

// coordinate begins the next job, if it is its turn, as long as there is one and the last one is done.
func (x *Node) coordinate() {
	for x.up && x.job == nil && x.jobs < jobSpan-1 && x.isTurn(x.key.Self, x.View()) {
		r, is := x.next()
		if !is {
			return
		}
		x.begin(r)
	}
}

// begin begins a job.
func (x *Node) begin(r name) {
	x.jobs++
	x.last = r.Origin
	// The key serves, and the message is a request's, so there is no error.
	c, _ := roast.New(x.key.N, x.key.F, x.key.Group, r.M)
	x.job = &job{name: r, number: jobSpan*x.life + x.jobs, view: x.View(), roast: c}
	x.others(x.says(x.job.ask()).tell)
	if pair, is := x.issue(); is {
		x.run(x.job.roast.Begin(pair))
	}
}

// hearOffer takes a node's first pair.
func (x *Node) hearOffer(from int, n note.Note) {
	if x.job != nil && n.Session == x.job.number && n.L[0].Node == from {
		x.run(x.job.roast.Begin(n.L[0]))
	}
}

// hearShare takes a node's share, and its next pair.
func (x *Node) hearShare(from int, n note.Note) {
	if x.job != nil && n.Session/sessionSpan == x.job.number {
		x.run(x.job.roast.Share(n.Session%sessionSpan, from, n.Z, n.L[0]))
	}
}

// run goes on with what the roast answered: a session that is opened is told to its nodes, and its own share in it may open
// another one, or be the last one.
func (x *Node) run(s roast.Session, is bool, _ api.Errno) {
	for is {
		s, is = x.tellSession(s)
	}
	for _, node := range x.job.roast.Bad() {
		x.peers[node].bad = true
	}
	if sig, is := x.job.roast.Done(); is {
		x.end(sig)
	}
}

// tellSession tells a session's nodes that it is opened, and the roast its own share: the session that is opened by it.
func (x *Node) tellSession(s roast.Session) (roast.Session, bool) {
	open := x.says(x.job.open(s))
	for _, pair := range s.L {
		if x.isOther(pair.Node) {
			open.tell(pair.Node)
		}
	}
	z, next, is := x.sign(x.job.M, s.L)
	if !is {
		return roast.Session{}, false
	}
	s, is, _ = x.job.roast.Share(s.Number, x.key.Self, z, next)
	return s, is
}

// end ends a job with its signature.
func (x *Node) end(sig api.Sig) {
	r := x.job.name
	x.job = nil
	x.settle(r, sig)
	x.others(x.says(r.end(sig)).tell)
}

// ask is a job's Ask.
func (j *job) ask() note.Note {
	return note.Note{Kind: note.Ask, View: j.view, Origin: j.Origin, ID: j.ID, Session: j.number, M: j.M}
}

// open is the Open of one of its sessions.
func (j *job) open(s roast.Session) note.Note {
	number := sessionSpan*j.number + s.Number
	return note.Note{Kind: note.Open, View: j.view, Origin: j.Origin, ID: j.ID, Session: number, M: j.M, L: s.L}
}
