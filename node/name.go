package node

import (
	"slices"

	"wardmote/api"
	"wardmote/note"
	"wardmote/queue"
	"wardmote/schnorr"
)

// A name is a request, of the node whose client submitted it.
type name struct {
	Origin, ID int
	M          string
}

// nameOf is the request that a note is of.
func nameOf(n note.Note) name { return name{Origin: n.Origin, ID: n.ID, M: n.M} }

// own is a request of its own client.
func (x *Node) own(r queue.Request) name { return name{Origin: x.key.Self, ID: r.ID, M: r.M} }

// isNew tells whether it is a request, that is not known, and there is room for it.
func (x *Node) isNew(r queue.Request) bool {
	_, known := x.queue.Get(r.ID)
	wait, _ := x.queue.Count()
	// A request is what can be told as one.
	return !known && wait < queue.Room && note.Check(x.gossipOf(r)) == api.OK
}

// gossipOf is the Gossip of a request of its own.
func (x *Node) gossipOf(r queue.Request) note.Note {
	return note.Note{Kind: note.Gossip, Origin: x.key.Self, ID: r.ID, M: r.M}
}

// gossip tells all others a request of its own.
func (x *Node) gossip(r queue.Request) { x.others(x.says(x.gossipOf(r)).tell) }

// accept has a new request wait: ErrFull, if there is no room for it in the file.
func (x *Node) accept(r queue.Request) api.Errno {
	if e := x.keep(acceptKind, number(r.ID), r.M); e != api.OK {
		return e
	}
	x.queue.Submit(r)
	x.gossip(r)
	x.coordinate()
	return api.OK
}

// openOf are a node's requests that are open, in their order.
func (x *Node) openOf(node int) []name {
	if node != x.key.Self {
		return x.peers[node].open
	}
	var out []name
	for _, r := range x.queue.Waiting() {
		if _, is := x.final[x.own(r)]; !is {
			out = append(out, x.own(r))
		}
	}
	return out
}

// next is the open request whose turn it is, and whether there is one.
func (x *Node) next() (name, bool) {
	for i := range x.key.N {
		if l := x.openOf((x.last+i)%x.key.N + 1); len(l) > 0 {
			return l[0], true
		}
	}
	return name{}, false
}

// waits tells whether a request is of its own client, who was not replied to.
func (x *Node) waits(r name) bool {
	return r.Origin == x.key.Self && slices.Contains(x.queue.Waiting(), queue.Request{ID: r.ID, M: r.M})
}

// hearGossip opens a request of a node, or tells it that it is final.
func (x *Node) hearGossip(r name) {
	p := &x.peers[r.Origin]
	if sig, is := x.final[r]; is {
		x.says(r.end(sig)).tell(r.Origin)
	} else if len(p.open) < queue.Room && !slices.Contains(p.open, r) {
		p.open = append(p.open, r)
	}
}

// end is the Final of a request.
func (r name) end(sig api.Sig) note.Note {
	return note.Note{Kind: note.Final, Origin: r.Origin, ID: r.ID, M: r.M, Sig: sig}
}

// settle has a request be final, if its signature holds. Of its own only those that wait are such: one that its client
// submits later on must be open then.
func (x *Node) settle(r name, sig api.Sig) {
	_, is := x.final[r]
	waits := x.waits(r)
	switch {
	case r.Origin == x.key.Self && !waits, is && !waits, schnorr.Verify(x.key.Public, r.M, sig) != api.OK:
		return
	case !is:
		x.final[r], x.since = sig, x.clock
		p := &x.peers[r.Origin]
		p.open = slices.DeleteFunc(p.open, func(other name) bool { return other == r })
	}
	if waits {
		x.finish(r)
	}
}

// finish has a request of its own be done.
func (x *Node) finish(r name) {
	sig := x.final[r]
	code, _ := schnorr.Encode(sig)
	if x.keep(finishKind, number(r.ID), r.M, code) == api.OK {
		x.queue.Finish(r.ID, sig)
		x.replies = append(x.replies, Reply{ID: r.ID, M: r.M, Sig: sig})
	}
}
