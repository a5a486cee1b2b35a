package oracle

import "wardmote/queue"

// The rules, by their numbers. (None breaks the one between those of answers and of replies: what is asked when the power
// goes is always taken.)
const (
	kept = iota
	kindRule
	answerRule
	_
	replyRule
	openRule
)

// take takes an event: the rule that it breaks, or kept.
func (b *book) take(e Event) int {
	rule, keeps := kindRule, false
	switch e.Kind {
	case Asked:
		rule, keeps = b.ask(e)
	case Replied:
		rule, keeps = replyRule, b.reply(e)
	case Opened:
		rule, keeps = openRule, b.open(e.L)
	}
	if keeps {
		return kept
	}
	return rule
}

// ask takes a request that was submitted: the rule by which it is looked at, and whether it keeps that.
func (b *book) ask(e Event) (int, bool) {
	switch e.Answer {
	case 0:
		b.cut(e.R)
		return kept, true
	case queue.Accepted:
		return answerRule, b.accept(e.R)
	case queue.Busy:
		return answerRule, isRequest(e.R) && b.known[e.R.ID].mayBeNew() && b.isFull()
	case queue.Reject:
		k := b.known[e.R.ID]
		return answerRule, !isRequest(e.R) || k.state != nothing && k.m != e.R.M
	case queue.Done:
		return answerRule, b.finish(e)
	}
	return kindRule, false
}

// cut takes a request in whose Submit the power went.
func (b *book) cut(r queue.Request) {
	if isRequest(r) && b.known[r.ID].state == nothing {
		b.known[r.ID] = entry{state: unclear, m: r.M}
	}
}

// accept has a request wait, if it may. (One that waits is a request.)
func (b *book) accept(r queue.Request) bool {
	k := b.known[r.ID]
	if k.is(waits, r.M) {
		return true
	}
	if !isRequest(r) || !k.mayBeNew() || b.isFull() {
		return false
	}
	b.wait(r)
	return true
}

// finish has a request be done that is answered so, if it may. (What is known is a request.)
func (b *book) finish(e Event) bool {
	k := b.known[e.R.ID]
	if k.is(done, e.R.M) {
		return k.sig == e.Sig
	}
	return k.is(unclear, e.R.M) && b.end(e.R, e.Sig)
}

// reply has a request be done that is replied to, if it may.
func (b *book) reply(e Event) bool {
	k := b.known[e.R.ID]
	return (k.is(waits, e.R.M) || k.is(unclear, e.R.M)) && b.end(e.R, e.Sig)
}

// open has those wait that wait in a node when it is opened, if they may.
func (b *book) open(l []queue.Request) bool {
	if len(l) > queue.Room {
		return false
	}
	b.doubt()
	for _, r := range l {
		if !b.known[r.ID].is(unclear, r.M) {
			return false
		}
		b.wait(r)
	}
	return true
}
