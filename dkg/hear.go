package dkg

import (
	"slices"

	"wardmote/api"
	"wardmote/field"
	"wardmote/king"
	"wardmote/parcel"
)

// showLen is how many bytes an item has that shows a share.
const showLen = 33

// unsure is the word of a node that tells none.
const unsure = 2

// hearDeals takes what each dealer dealt.
func (x *Node) hearDeals(told [][]string) {
	for i, items := range told {
		if items != nil {
			x.dealers[i].takeDeal(x.f+1, items[0], items[1])
		}
	}
}

// hearEchoes takes what each node was dealt.
func (x *Node) hearEchoes(told [][]string) {
	for i := range x.dealers {
		x.dealers[i].echoes = column(told, i)
	}
}

// hearMarks takes the marks, by which there are commitments.
func (x *Node) hearMarks(told [][]string) {
	for i := range x.dealers {
		x.dealers[i].settle(x, column(told, i))
	}
}

// hearComplaints takes who complained of whom.
func (x *Node) hearComplaints(told [][]string) {
	for i, items := range told {
		for _, d := range x.complaints(items) {
			accusers := &x.dealers[d-1].accusers
			*accusers = append(*accusers, i+1)
		}
	}
}

// complaints are the dealers that a node's items name; none, if it is not only nodes that are named, or they do not rise.
func (x *Node) complaints(items []string) []int {
	if items == nil {
		return nil
	}
	named, e := parcel.ToInts(items[0])
	if e != api.OK {
		return nil
	}
	last := 0
	for _, d := range named {
		if d <= last || d > x.n {
			return nil
		}
		last = d
	}
	return named
}

// hearShown takes the shares that dealers have shown, its own among them; then it votes.
func (x *Node) hearShown(told [][]string) {
	x.shown = map[place]api.Num{}
	for i, items := range told {
		for _, item := range items {
			x.takeShown(i+1, item)
		}
	}
	for i := range x.dealers {
		d := &x.dealers[i]
		if s, is := x.shown[place{i + 1, x.self}]; is && !d.has {
			d.share, d.has = s, true
		}
		d.vote, _ = king.New(x.n, x.f, x.self, x.voteOf(i+1))
		d.accusers = nil
	}
	x.line = nil
}

// takeShown takes a share that a dealer has shown, if its node complained, and it is the first right one.
func (x *Node) takeShown(from int, item string) {
	node, s, is := shownBy(item)
	if !is {
		return
	}
	d, at := &x.dealers[from-1], place{from, node}
	if _, was := x.shown[at]; was || !slices.Contains(d.accusers, node) {
		return
	}
	if d.tells(node, s) {
		x.shown[at] = s
	}
}

// voteOf is 1 for a dealer of whose commitments it is sure, and who has shown all shares of which nodes complained.
func (x *Node) voteOf(from int) int {
	d := &x.dealers[from-1]
	if !d.sure {
		return 0
	}
	for _, node := range d.accusers {
		if _, is := x.shown[place{from, node}]; !is {
			return 0
		}
	}
	return 1
}

// hearPassed takes its own shares that it lacks of those that other nodes were shown.
func (x *Node) hearPassed(told [][]string) {
	for _, items := range told {
		for _, item := range items {
			from, s, is := shownBy(item)
			if !is || from < 1 || from > x.n {
				continue
			}
			d := &x.dealers[from-1]
			if !d.has && d.tells(x.self, s) {
				d.share, d.has = s, true
			}
		}
	}
	x.shown = nil
}

// hearWords has the votes of all dealers go through a round.
func (x *Node) hearWords(told [][]string) {
	for i := range x.dealers {
		words := make([]int, x.n)
		for node, items := range told {
			words[node] = unsure
			if items != nil && len(items[0]) == x.n {
				words[node] = int(items[0][i])
			}
		}
		x.dealers[i].vote.Hear(words)
	}
}

// shownBy is what an item shows: a number, that may be no node's, and its share.
func shownBy(item string) (int, api.Num, bool) {
	if len(item) != showLen {
		return 0, api.Num{}, false
	}
	s, e := field.Scalars().Decode(item[1:])
	return int(item[0]), s, e == api.OK
}
