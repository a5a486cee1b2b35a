package node_test

import (
	"encoding/binary"
	"math/rand"
	"slices"
	"strconv"

	"wardmote/api"
	"wardmote/bind"
	"wardmote/curve"
	"wardmote/note"
	"wardmote/parcel"
)

// A forger sends letters in odd nodes' names, that fit to what was sent there, and tells whatever may do harm.
type forger struct {
	source *rand.Rand
	x      *town
	ends   map[[2]int][2]int // by who tells whom: the life, and the greatest number of a frame
	told   []saying          // what odd nodes were told, but for Beats
	finals []note.Note       // what anyone was told
}

// A saying is what a node was told.
type saying struct {
	from, to int
	n        note.Note
}

// forgerOf is one of a town.
func forgerOf(source *rand.Rand, x *town) *forger {
	f := &forger{source: source, x: x, ends: map[[2]int][2]int{}}
	x.spy = f.spy
	return f
}

// packed are the bytes of a record.
func packed(kind int, items ...string) string {
	s, _ := parcel.Pack(kind, items)
	return s
}

// eight are a number's bytes.
func eight(n int) string { return string(binary.BigEndian.AppendUint64(nil, uint64(n))) }

// frame is one.
func frame(life, number int, text string) string { return packed(1, eight(life), eight(number), text) }

// readFrame is what a frame tells; the life 0 of what is none.
func readFrame(s string) (int, int, string) {
	kind, items, e := parcel.Unpack(s)
	if e != api.OK || kind != 1 || len(items) != 3 {
		return 0, 0, ""
	}
	life, _ := parcel.ToInt(items[0])
	number, _ := parcel.ToInt(items[1])
	return life, number, items[2]
}

// spy takes a letter that is sent.
func (f *forger) spy(l letter) {
	life, number, text := readFrame(l.text)
	n, e := note.Decode(text)
	if life == 0 || e != api.OK {
		return
	}
	key := [2]int{l.from, l.to}
	if end := f.ends[key]; life < end[0] || life == end[0] && number <= end[1] {
		return
	}
	f.ends[key] = [2]int{life, number}
	if n.Kind == note.Final {
		f.finals = append(f.finals, n)
	} else if n.Kind != note.Beat && slices.Contains(f.x.odd, l.to) {
		f.told = append(f.told, saying{l.from, l.to, n})
	}
}

// forge sends a letter of an odd node.
func (f *forger) forge() {
	s := f.answer()
	if f.source.Intn(2) == 0 || s.n.Kind == 0 {
		s = saying{from: f.x.odd[f.source.Intn(len(f.x.odd))], to: 1 + f.source.Intn(f.x.n)}
		s.n = f.note(s.from, s.to)
	}
	text, e := note.Encode(s.n)
	if s.from == s.to || e != api.OK {
		return
	}
	key := [2]int{s.from, s.to}
	end := f.ends[key]
	if end[1]++; f.source.Intn(12) == 0 {
		// Of another life.
		end = [2]int{end[0] + f.source.Intn(2000), f.source.Intn(3)}
	}
	f.ends[key] = end
	f.x.letters = append(f.x.letters, letter{from: s.from, to: s.to, text: frame(max(1, end[0]), end[1], text)})
}

// answer is what answers a thing that an odd node was told of late: a wrong share, or a pair of nonces that nobody drew, of
// this node or of another one.
func (f *forger) answer() saying {
	if len(f.told) == 0 {
		return saying{}
	}
	s := f.told[len(f.told)-1-f.source.Intn(min(len(f.told), 4))]
	n := note.Note{View: s.n.View, Origin: s.n.Origin, ID: s.n.ID, Session: s.n.Session, L: []bind.Pair{f.pair(s.to)}}
	if f.source.Intn(4) == 0 {
		n.L[0].Node = 1 + f.source.Intn(f.x.n)
	}
	switch s.n.Kind {
	case note.Ask:
		n.Kind = note.Offer
	case note.Open:
		n.Kind, n.Z = note.Share, api.Num{f.source.Uint64()}
	}
	return saying{from: s.to, to: s.from, n: n}
}

// pair is one of a node, of nonces that nobody drew.
func (f *forger) pair(self int) bind.Pair {
	d, _ := curve.Mul(api.Num{uint64(2 + f.source.Intn(1000))}, curve.G())
	return bind.Pair{Node: self, D: d, E: curve.G()}
}

// note is what an odd node tells.
func (f *forger) note(from, to int) note.Note {
	view := f.source.Intn(4)*f.x.n + from - 1
	n := note.Note{Origin: 1 + f.source.Intn(f.x.n), ID: 1 + f.source.Intn(30), M: "m" + strconv.Itoa(f.source.Intn(3))}
	switch f.source.Intn(7) {
	case 0:
		return beatOf(f.source.Intn(200))
	case 1:
		return gossipOf(from, n.ID, n.M)
	case 2:
		return askOf(view, n.Origin, n.ID, 1+f.source.Intn(1<<20), n.M)
	case 3, 4:
		return openOf(view, n.Origin, n.ID, 17, n.M, f.list(to))
	case 5:
		return finalOf(to, n.ID, n.M, api.Sig{R: curve.G(), Z: api.Num{1}})
	}
	if len(f.finals) == 0 {
		return beatOf(0)
	}
	// A signature that holds, of its message, for another request.
	end := f.finals[f.source.Intn(len(f.finals))]
	return finalOf(to, n.ID, end.M, end.Sig)
}

// list is a session's, with a pair that a node offered, whatever became of it.
func (f *forger) list(of int) []bind.Pair {
	var offered []bind.Pair
	for _, s := range f.told {
		if s.n.Kind == note.Offer && s.from == of {
			offered = append(offered, s.n.L[0])
		}
	}
	l := []bind.Pair{f.pair(of)}
	if len(offered) > 0 {
		l[0] = offered[f.source.Intn(len(offered))]
	}
	for self := 1; self <= f.x.n && len(l) <= f.x.f; self++ {
		if self != of {
			l = append(l, f.pair(self))
		}
	}
	return listOf(l...)
}
