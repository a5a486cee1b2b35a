package node

import (
	"slices"

	"wardmote/api"
	"wardmote/beat"
	"wardmote/note"
)

// isTurn tells whether it is a node's turn in a view.
func (x *Node) isTurn(node, view int) bool {
	turn, e := beat.Turn(x.key.N, view)
	return e == api.OK && turn == node
}

// checkView enters the next view, if what is open was waited for too long, or its view's node is silent.
func (x *Node) checkView() {
	if _, is := x.next(); !is {
		x.since = x.clock
		return
	}
	silent := x.watch.Silent()
	turn, _ := beat.Turn(x.key.N, x.View())
	if x.clock-x.since < Patience && !slices.Contains(silent, turn) {
		return
	}
	if view, e := beat.Next(x.key.N, x.View(), silent); e == api.OK {
		x.enter(view)
	}
}

// enter enters a view.
func (x *Node) enter(view int) {
	x.peers[x.key.Self].view = view
	x.job, x.since = nil, x.clock
	for _, r := range x.queue.Waiting() {
		x.gossip(r)
	}
}

// hearView takes the view that a node told. Of f + 1 nodes that came so far one does as told, so that its own is no less.
func (x *Node) hearView(node, view int) {
	x.peers[node].view = max(x.peers[node].view, view)
	var views []int
	for node := 1; node <= x.key.N; node++ {
		views = append(views, x.peers[node].view)
	}
	slices.Sort(views)
	if least := views[x.key.N-1-x.key.F]; least > x.View() {
		x.enter(least)
	}
}

// tellView tells a node its view, if it is told nothing else.
func (x *Node) tellView(node int) {
	if x.peers[node].sender.Waiting() == 0 {
		x.says(note.Note{Kind: note.Beat, View: x.View()}).tell(node)
	}
}
