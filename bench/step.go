package bench

import (
	"slices"
	"strings"

	"wardmote/api"
	"wardmote/node"
	"wardmote/queue"
)

// maxRounds is how many rounds a choice has.
const maxRounds = 50

// A letter is one that waits.
type letter struct {
	from, to int
	text     string
}

// has tells whether there is such a node.
func (b *Bench) has(i int) bool { return b != nil && 1 <= i && i <= len(b.seats) }

// seat is that of a node that is there.
func (b *Bench) seat(i int) *seat { return &b.seats[i-1] }

// do does a choice.
func (b *Bench) do(x api.Choice) {
	switch x.Kind {
	case api.DoDeliver, api.DoLose, api.DoAgain:
		if 0 <= x.N && x.N < len(b.letters) {
			b.doLetter(x)
		}
	case api.DoRound:
		if x.N <= maxRounds {
			b.rounds(x.N)
		}
	default:
		if b.has(x.Node) {
			b.doNode(x)
		}
	}
}

// doLetter does a choice of a letter that waits.
func (b *Bench) doLetter(x api.Choice) {
	switch x.Kind {
	case api.DoDeliver:
		b.deliver(x.N)
	case api.DoLose:
		b.take(x.N)
	case api.DoAgain:
		b.post(b.letters[x.N])
	}
}

// doNode does a choice of a node that is there.
func (b *Bench) doNode(x api.Choice) {
	s := b.seat(x.Node)
	switch x.Kind {
	case api.DoSubmit:
		s.submit(copyOf(queue.Request{ID: x.ID, M: x.M}))
	case api.DoTick:
		b.tick(x.Node)
	case api.DoDown:
		s.down(x.N, x.Mask)
	case api.DoStart:
		s.start()
	case api.DoFuse:
		s.node.Fuse(x.N)
	case api.DoForge:
		if isIn(b.odd, x.Node) && b.has(x.N) && x.N != x.Node {
			b.post(letter{from: x.Node, to: x.N, text: strings.Clone(x.M)})
		}
	}
}

// rounds has all nodes tick, and all letters come, so often; never for a number below 1.
func (b *Bench) rounds(n int) {
	for range n {
		for i := range b.seats {
			b.tick(i + 1)
		}
		for len(b.letters) > 0 {
			b.deliver(0)
		}
	}
}

// tick has a node tick.
func (b *Bench) tick(i int) { b.send(i, b.seat(i).node.Tick()) }

// deliver takes a letter to its node.
func (b *Bench) deliver(at int) {
	l := b.take(at)
	b.send(l.to, b.seat(l.to).node.Hear(l.from, l.text))
}

// send sends what a node sends.
func (b *Bench) send(from int, outs []node.Out) {
	for _, out := range outs {
		b.post(letter{from: from, to: out.To, text: out.Text})
	}
}

// post has a letter wait, if there is room.
func (b *Bench) post(l letter) {
	if len(b.letters) < MaxLetters {
		b.letters = append(b.letters, l)
	}
}

// take is a letter that waits no longer.
func (b *Bench) take(at int) letter {
	l := b.letters[at]
	b.letters = slices.Delete(b.letters, at, at+1)
	return l
}
