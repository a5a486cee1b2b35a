package bench_test

import (
	"math/rand"
	"strconv"

	"wardmote/api"
	"wardmote/bind"
	"wardmote/curve"
	"wardmote/note"
	"wardmote/parcel"
)

// number are a number's bytes.
func number(n int) string {
	s, _ := parcel.Int(n)
	return s
}

// frame is one of a link.
func frame(life, count int, text string) string {
	s, _ := parcel.Pack(1, []string{number(life), number(count), text})
	return s
}

// readFrame is what a frame tells; the life 0 of what is none.
func readFrame(s string) (int, int, string) {
	kind, items, e := parcel.Unpack(s)
	if e != api.OK || kind != 1 || len(items) != 3 {
		return 0, 0, ""
	}
	life, _ := parcel.ToInt(items[0])
	count, _ := parcel.ToInt(items[1])
	return life, count, items[2]
}

// A liar has odd nodes tell others something else than they would: it takes a letter of theirs that waits, and sends another
// one in its place, of the same life and number, so that it is taken instead.
type liar struct {
	source *rand.Rand
	x      *pair
	pairs  []bind.Pair // that were seen
	finals []note.Note
}

// lie has one of the odd nodes' letters that wait tell something else, if one is found soon.
func (l *liar) lie() {
	for range 12 {
		if at := l.source.Intn(len(l.x.p.letters) + 1); l.lieAt(at) {
			return
		}
	}
}

// lieAt has a letter tell something else, if it is a frame of an odd node: whether it is.
func (l *liar) lieAt(at int) bool {
	if at >= len(l.x.p.letters) || !l.x.p.isOdd(l.x.p.letters[at].from) {
		return false
	}
	was := l.x.p.letters[at]
	life, count, text := readFrame(was.text)
	n, e := note.Decode(text)
	if life == 0 || e != api.OK || l.source.Intn(rareness(n.Kind)) > 0 {
		return false
	}
	l.learn(n)
	other, e := note.Encode(l.twist(n, was))
	if e != api.OK {
		return false
	}
	// Of a later life, behind which nothing of this one is taken any more.
	if l.source.Intn(80) == 0 {
		life += l.source.Intn(2000)
	}
	l.x.step(api.Choice{Kind: api.DoLose, N: at})
	l.x.step(forge(was.from, was.to, frame(life, count, other)))
	return true
}

// rareness is of how many letters of a kind one lies. Only one whose Offer was right can tell a wrong share.
func rareness(kind int) int {
	switch kind {
	case note.Share:
		return 2
	case note.Beat:
		return 8
	}
	return 6
}

// learn keeps what may be told anywhere.
func (l *liar) learn(n note.Note) {
	l.pairs = append(l.pairs, n.L...)
	if n.Kind == note.Final {
		l.finals = append(l.finals, n)
	}
}

// twist is another note.
func (l *liar) twist(n note.Note, was letter) note.Note {
	any := l.source.Intn
	switch {
	case n.Kind == note.Beat && any(2) == 0:
		return note.Note{Kind: note.Beat, View: any(300)}
	case n.Kind == note.Beat && any(2) == 0:
		return note.Note{Kind: note.Gossip, Origin: was.from, ID: 1 + any(20), M: "m" + strconv.Itoa(any(3))}
	case n.Kind == note.Beat && len(l.finals) > 0:
		end := l.finals[any(len(l.finals))]
		end.Origin, end.ID = was.to, 1+any(20)
		return end
	case n.Kind == note.Share && any(3) > 0:
		n.Z[0]++
	case n.Kind == note.Open && any(2) == 0:
		n.M += "?"
	case (n.Kind == note.Open || n.Kind == note.Offer || n.Kind == note.Share) && any(4) > 0:
		at := any(len(n.L))
		n.L[at] = l.pair(n.L[at])
	case n.Kind == note.Final:
		n.Sig.Z[0] ^= uint64(any(2))
		n.ID = 1 + any(20)
	default:
		n.Origin, n.Session = 1+any(l.x.p.n), max(n.Session+any(3)-1, 0)
	}
	return n
}

// pair is one of the same node: one that was seen, or of nonces that nobody drew.
func (l *liar) pair(p bind.Pair) bind.Pair {
	if seen := l.pairs[l.source.Intn(len(l.pairs))]; seen.Node == p.Node {
		return seen
	}
	p.D, _ = curve.Mul(api.Num{uint64(2 + l.source.Intn(1000))}, curve.G())
	return p
}
