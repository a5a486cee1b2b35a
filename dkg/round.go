package dkg

import (
	"slices"

	"wardmote/api"
	"wardmote/parcel"
)

// The rounds; those from wordRound on are all alike.
const (
	dealRound = iota
	echoRound
	markRound
	complaintRound
	showRound
	passRound
	wordRound
)

// perPhase is how many rounds a phase of king has.
const perPhase = 3

// firstKind is the kind of the texts of round 0; each round's is one more.
const firstKind = 10

// anyCount says that a round's texts may have any number of items.
const anyCount = -1

// A round is what a node does in it.
type round struct {
	kind, count int
	tell        func() [][]string     // the items that it tells each node
	hear        func(told [][]string) // it hears the items that each node told; nil of a text that is none
}

// now is the round ahead of which it is.
func (x *Node) now() round {
	switch x.round {
	case dealRound:
		return round{firstKind + dealRound, 2, x.deal, x.hearDeals}
	case echoRound:
		return round{firstKind + echoRound, x.n, x.echo, x.hearEchoes}
	case markRound:
		return round{firstKind + markRound, x.n, x.mark, x.hearMarks}
	case complaintRound:
		return round{firstKind + complaintRound, 1, x.complain, x.hearComplaints}
	case showRound:
		return round{firstKind + showRound, anyCount, x.show, x.hearShown}
	case passRound:
		return round{firstKind + passRound, anyCount, x.pass, x.hearPassed}
	}
	return round{firstKind + wordRound, 1, x.say, x.hearWords}
}

// pack is a text of the round. (All that a node tells is short enough.)
func (r round) pack(items []string) string {
	text, _ := parcel.Pack(r.kind, items)
	return text
}

// unpack are a text's items; of a text that is none of the round there are none.
func (r round) unpack(text string) []string {
	kind, items, e := parcel.Unpack(text)
	if e != api.OK || kind != r.kind || r.count != anyCount && len(items) != r.count {
		return nil
	}
	return items
}

// toAll are the same items for each node.
func (x *Node) toAll(items ...string) [][]string { return slices.Repeat([][]string{items}, x.n) }

// column is what each node told of a dealer, by the dealer's place; empty of one that told nothing.
func column(told [][]string, at int) []string {
	out := make([]string, len(told))
	for i, items := range told {
		if items != nil {
			out[i] = items[at]
		}
	}
	return out
}
