package node

import (
	"wardmote/api"
	"wardmote/link"
	"wardmote/note"
)

// lifeSpan is how many of a sender's lives there are in one of its node's.
const lifeSpan = 1024

// A peer is what a node has of another one.
type peer struct {
	sender *link.Sender
	anew   int // how often it began anew
	taker  *link.Taker
	view   int    // the greatest that it told
	open   []name // what it asks for
	bad    bool
}

// isOther tells whether a number is another node's.
func (x *Node) isOther(node int) bool { return 1 <= node && node <= x.key.N && node != x.key.Self }

// others does something to each other node.
func (x *Node) others(do func(node int)) {
	for node := 1; node <= x.key.N; node++ {
		if x.isOther(node) {
			do(node)
		}
	}
}

// Words are a note's bytes, that nodes are told.
type words struct {
	x    *Node
	text string
}

// says are a note's bytes. (It is one, so there is no error.)
func (x *Node) says(n note.Note) words {
	text, _ := note.Encode(n)
	return words{x: x, text: text}
}

// tell tells a node. To one for which too many texts wait they are lost.
func (w words) tell(node int) { w.x.peers[node].sender.Push(w.text) }

// A mail is letters that are sent.
type mail struct {
	x    *Node
	outs []Out
}

// frames sends a node's frames.
func (m *mail) frames(node int) {
	for _, text := range m.x.peers[node].sender.Frames() {
		m.outs = append(m.outs, Out{To: node, Text: text})
	}
}

// sent is what is sent, unless the power went: then it is lost.
func (x *Node) sent(outs []Out) []Out {
	if !x.up {
		return nil
	}
	return outs
}

// hear takes a frame, or an ack, of a node: what is sent at once.
func (x *Node) hear(from int, text string) []Out {
	p := &x.peers[from]
	if _, e := p.sender.Heard(text); e == api.OK {
		x.watch.Heard(from, x.clock)
		return nil
	}
	was := p.lives()
	told, is, e := p.taker.Take(text)
	if e != api.OK {
		return nil
	}
	x.watch.Heard(from, x.clock)
	// A node that was opened again knows nothing of what came.
	if p.lives() > max(was, 1) {
		x.renew(p)
	}
	if n, e := note.Decode(told); is && e == api.OK {
		x.read(from, n)
		x.coordinate()
	}
	return []Out{{To: from, Text: p.taker.Ack()}}
}

// lives are those of a node, as far as its frames told.
func (p *peer) lives() int {
	life, _ := p.taker.Came()
	return life / lifeSpan
}

// renew has the sender to a node begin anew, as long as its lives do not reach those of the next one of x.
func (x *Node) renew(p *peer) {
	if p.anew < lifeSpan-1 {
		p.anew++
		p.sender, _ = link.NewSender(lifeSpan*x.life + p.anew)
	}
}
