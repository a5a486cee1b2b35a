package node

import (
	"wardmote/api"
	"wardmote/bind"
	"wardmote/note"
	"wardmote/schnorr"
)

// read takes a note of another node.
func (x *Node) read(from int, n note.Note) {
	switch n.Kind {
	case note.Gossip:
		if n.Origin == from {
			x.hearGossip(nameOf(n))
		}
	case note.Ask:
		if x.isTurn(from, n.View) {
			x.answer(from, n)
		}
	case note.Offer:
		x.hearOffer(from, n)
	case note.Open:
		if x.isTurn(from, n.View) {
			x.join(from, n)
		}
	case note.Share:
		x.hearShare(from, n)
	case note.Final:
		if n.Origin <= x.key.N {
			x.settle(nameOf(n), n.Sig)
		}
	case note.Beat:
		x.hearView(from, n.View)
	}
}

// answer tells the coordinator a pair.
func (x *Node) answer(from int, n note.Note) {
	if pair, is := x.issue(); is {
		x.says(note.Note{
			Kind: note.Offer, View: n.View, Origin: n.Origin, ID: n.ID, Session: n.Session, L: []bind.Pair{pair},
		}).tell(from)
	}
}

// join tells the coordinator its share in a session.
func (x *Node) join(from int, n note.Note) {
	if z, next, is := x.sign(n.M, n.L); is {
		x.says(note.Note{
			Kind: note.Share, View: n.View, Origin: n.Origin, ID: n.ID, Session: n.Session, Z: z, L: []bind.Pair{next},
		}).tell(from)
	}
}

// issue issues the next nonce: its pair, and whether there is one.
func (x *Node) issue() (bind.Pair, bool) {
	n, pair, e := x.signer.Issue()
	if e != api.OK {
		return bind.Pair{}, false
	}
	x.nonces[pair] = n
	return pair, true
}

// sign is its share of a signature, of a list that has a pair of its own, the pair of the next nonce, and whether they may
// be told: only if it lasts that the nonce is spent.
func (x *Node) sign(m string, l []bind.Pair) (api.Num, bind.Pair, bool) {
	pair, n := x.find(l)
	z, e := x.signer.Sign(n, m, l)
	if e != api.OK {
		return api.Num{}, bind.Pair{}, false
	}
	delete(x.nonces, pair)
	if x.keep(spentKind, number(n)) != api.OK {
		return api.Num{}, bind.Pair{}, false
	}
	next, is := x.issue()
	if !is {
		return api.Num{}, bind.Pair{}, false
	}
	// It was signed, so there is no error.
	r, _ := bind.Group(x.key.Public, m, l)
	c, _ := schnorr.Challenge(r, x.key.Public, m)
	x.emits = append(x.emits, Emit{Pair: pair, Challenge: c})
	return z, next, true
}

// find is the pair of a list that was issued here and is not spent, and its nonce's number; 0, if there is none.
func (x *Node) find(l []bind.Pair) (bind.Pair, int) {
	for _, pair := range l {
		if n, is := x.nonces[pair]; is {
			return pair, n
		}
	}
	return bind.Pair{}, 0
}
