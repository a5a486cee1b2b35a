package node

import (
	"wardmote/api"
	"wardmote/parcel"
	"wardmote/queue"
	"wardmote/schnorr"
)

// Kinds of records.
const (
	lifeKind = iota + 40
	acceptKind
	spentKind
	finishKind
)

// keep has a record last: ErrFull, if there is no room for it, and ErrState, if the power goes.
func (x *Node) keep(kind int, items ...string) api.Errno {
	record, _ := parcel.Pack(kind, items)
	if !x.step() {
		return api.ErrState
	}
	if _, e := x.log.Append(record); e != api.OK {
		return e
	}
	if !x.step() {
		return api.ErrState
	}
	return x.log.Sync()
}

// step is one of the file's: whether it is to be done.
func (x *Node) step() bool {
	if x.fuse == 1 {
		x.up = false
	}
	x.fuse = max(0, x.fuse-1)
	return x.up
}

// number are the bytes of a number that is none below 0.
func number(n int) string {
	s, _ := parcel.Int(n)
	return s
}

// recall takes what a record tells: the nonce that was spent, or 0. One that is none is passed over.
func (x *Node) recall(record string) int {
	kind, items, _ := parcel.Unpack(record)
	switch {
	case kind == lifeKind && len(items) == 0:
		x.life++
	case kind == acceptKind && len(items) == 2:
		x.recallAccept(items)
	case kind == spentKind && len(items) == 1:
		return nonceOf(items[0])
	case kind == finishKind && len(items) == 3:
		x.recallFinish(items)
	}
	return 0
}

// nonceOf is the nonce's number that bytes are, or 0.
func nonceOf(s string) int {
	n, e := parcel.ToInt(s)
	if e != api.OK || n > api.MaxBig {
		return 0
	}
	return n
}

// recallAccept has a request wait: whether it does. (Of bytes that are no number there is the ID 0, which no request has.)
func (x *Node) recallAccept(items []string) bool {
	id, _ := parcel.ToInt(items[0])
	answer, _ := x.queue.Submit(queue.Request{ID: id, M: items[1]})
	return answer == queue.Accepted
}

// recallFinish has a request be done.
func (x *Node) recallFinish(items []string) {
	sig, e := schnorr.Decode(items[2])
	if e == api.OK && x.recallAccept(items) {
		id, _ := parcel.ToInt(items[0])
		x.queue.Finish(id, sig)
	}
}
