package node_test

import (
	"testing"

	"wardmote/api"
	"wardmote/bind"
	"wardmote/gather"
	"wardmote/node"
	"wardmote/note"
	"wardmote/schnorr"
)

// offers has a mate ask for a pair: that of the nonce of that number is offered.
func (x *rig) offers(from, view, number int) bind.Pair {
	x.t.Helper()
	x.tell(from, askOf(view, 3, 9, 70000+number, "m"))
	x.hasTold(from, offerOf(view, 3, 9, 70000+number, x.nonce(number)))
	return x.nonce(number)
}

// isRight tells whether a share is.
func (x *rig) isRight(m string, l []bind.Pair, z api.Num) bool {
	k := x.keys[0]
	g, e := gather.New(k.N, k.F, k.Group, m, l)
	if e != api.OK {
		return false
	}
	_, e = g.Take(x.self, z)
	return e == api.OK
}

// challengeOf is a list's.
func (x *rig) challengeOf(m string, l []bind.Pair) api.Num {
	r, _ := bind.Group(x.keys[0].Public, m, l)
	c, _ := schnorr.Challenge(r, x.keys[0].Public, m)
	return c
}

// signs has a mate open a session: a right share is told, with the next pair, of that number; the nonce is spent.
func (x *rig) signs(from, view, nonce, next int, m string, l []bind.Pair) {
	x.t.Helper()
	emits, records := len(x.x.Emits()), len(x.records())
	x.tell(from, openOf(view, 3, 9, 1120017, m, l))
	if got := x.records(); len(got) != records+1 || got[records] != spentOf(nonce) {
		x.t.Fatalf("records: %q", got[records:])
	}
	x.tick()
	got := x.told(from)
	if len(got) != 1 || x.text(got[0]) != x.text(shareOf(view, 3, 9, 1120017, got[0].Z, x.nonce(next))) || !x.isRight(m, l, got[0].Z) {
		x.t.Fatalf("node %d was told %v", from, show(got))
	}
	all := x.x.Emits()
	if len(all) != emits+1 || all[emits] != (node.Emit{Pair: x.nonce(nonce), Challenge: x.challengeOf(m, l)}) {
		x.t.Fatalf("%d shares were told", len(all))
	}
}

// refuses has a mate open a session: nothing is told, and nothing is written.
func (x *rig) refuses(from int, n note.Note) {
	x.t.Helper()
	emits, records := len(x.x.Emits()), x.records()
	x.tell(from, n)
	x.keeps(records...)
	x.hasTold(from)
	if len(x.x.Emits()) != emits || !x.x.Up() {
		x.t.Fatal("a share was told")
	}
}

// Asks of the node whose turn the Ask's view is, whatever its own view: each is offered the next nonce's pair.
func TestAsk(t *testing.T) {
	x := rigOf(t, 4, 1, 2)
	number := 0
	for _, view := range []int{0, 4, 2, 3, 7, 1 << 40, 1<<40 - 4, 0} {
		from := view%4 + 1
		number++
		x.offers(from, view, number)
		if x.x.View() != 0 {
			t.Fatalf("view %d", x.x.View())
		}
	}
	// Those of others are offered nothing, and no nonce is issued.
	for view := range 9 {
		for _, from := range []int{1, 3, 4} {
			if view%4+1 != from {
				x.refuses(from, askOf(view, 3, 9, 70000, "m"))
			}
		}
	}
	x.offers(3, 6, number+1)
	x.keeps()
}

// What the Offer tells is what the Ask told.
func TestOfferTells(t *testing.T) {
	x := rigOf(t, 4, 1, 2)
	for i, n := range []note.Note{
		askOf(0, 1, 1, 1, ""), askOf(4, 10, 1<<40, 1<<40, full), askOf(8, 2, 3, 65536, "\x00"), askOf(0, 1, 1, 1, ""),
	} {
		x.tell(1, n)
		x.hasTold(1, offerOf(n.View, n.Origin, n.ID, n.Session, x.nonce(i+1)))
	}
}

// Opens of the node whose turn the Open's view is: a right share is told, of whatever nonce that is issued and not spent.
func TestOpenIsSigned(t *testing.T) {
	x := rigOf(t, 4, 1, 2)
	for number := 1; number <= 4; number++ {
		x.offers(1, 0, number)
	}
	_, other := x.issue(1)
	_, fourth := x.issue(4)
	x.signs(1, 0, 3, 5, "m", listOf(x.nonce(3), other))
	x.signs(3, 2, 1, 6, full, listOf(x.nonce(1), fourth))
	x.signs(4, 1<<40-1, 5, 7, "", listOf(x.nonce(5), other))
	x.keeps(spentOf(3), spentOf(1), spentOf(5))
	// Opened again, all up to the greatest one are spent.
	x.again(0, 0)
	x.meet(1, 2048)
	x.offers(1, 0, 6)
}

// Open twice with one nonce, whoever opens it, whatever the message and the others' pairs are.
func TestOpenTwice(t *testing.T) {
	x := rigOf(t, 4, 1, 2)
	x.offers(1, 0, 1)
	_, other := x.issue(1)
	_, third := x.issue(3)
	l := listOf(x.nonce(1), other)
	x.signs(1, 0, 1, 2, "m", l)
	for _, n := range []note.Note{
		openOf(0, 3, 9, 1120017, "m", l), openOf(0, 3, 9, 1120018, "n", l), openOf(4, 3, 9, 1120017, "m", l),
		openOf(0, 3, 9, 1120017, "m", listOf(x.nonce(1), third)),
	} {
		x.refuses(1, n)
	}
	x.refuses(3, openOf(2, 3, 9, 1120017, "m", l))
	x.signs(1, 0, 2, 3, "m", listOf(x.nonce(2), other))
	// Nor when it is opened again.
	x.again(0, 0)
	x.meet(1, 2048)
	x.refuses(1, openOf(0, 3, 9, 1120017, "m", l))
	x.offers(1, 0, 3)
	x.refuses(1, openOf(0, 3, 9, 1120017, "m", l))
	x.refuses(1, openOf(0, 3, 9, 1120017, "m", listOf(x.nonce(2), other)))
}

// Opens that are not signed: of a node whose turn it is not, of a nonce that was not issued, or not in this life, of a pair
// that is not its own, of lists that are no session's. The nonce is not spent by them.
func TestOpenIsRefused(t *testing.T) {
	x := rigOf(t, 4, 1, 2)
	own := x.offers(1, 0, 1)
	_, first := x.issue(1)
	_, third := x.issue(3)
	_, fourth := x.issue(4)
	l := listOf(own, first)
	for view := range 8 {
		for _, from := range []int{1, 3, 4} {
			if view%4+1 != from {
				x.refuses(from, openOf(view, 3, 9, 1120017, "m", l))
			}
		}
	}
	mixed := own
	mixed.E = first.E
	moved := own
	moved.Node = 3
	swapped := bind.Pair{Node: 2, D: own.E, E: own.D}
	above := fourth
	above.Node = 5
	for _, list := range [][]bind.Pair{
		listOf(x.nonce(2), first), listOf(x.nonce(3), first), listOf(mixed, first), listOf(swapped, first), listOf(moved, first),
		listOf(third, fourth), listOf(own), listOf(own, first, third), listOf(own, above), listOf(own, first, third, fourth),
	} {
		x.refuses(1, openOf(0, 3, 9, 1120017, "m", list))
	}
	// A nonce that was offered in another life, and not again in this one.
	x.again(0, 0)
	x.meet(1, 2048)
	x.refuses(1, openOf(0, 3, 9, 1120017, "m", l))
	x.offers(1, 0, 1)
	x.signs(1, 0, 1, 2, "m", l)
}
