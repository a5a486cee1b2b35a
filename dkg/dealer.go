package dkg

import (
	"wardmote/api"
	"wardmote/cast"
	"wardmote/feld"
	"wardmote/field"
	"wardmote/king"
)

// A place is a dealer and the node whose share that dealer has shown.
type place [2]int

// A dealer is what a node has of one, round by round.
type dealer struct {
	dealt    string      // the commitments that were dealt it, as bytes, until it has heard of marks; empty of nothing
	echoes   []string    // what nodes told that these are, as long
	points   []api.Point // the commitments, if there are some
	sure     bool        // whether it is sure of them
	share    api.Num     // its share; ahead of the commitments what was dealt it
	has      bool        // whether it has its share
	accusers []int       // the nodes that complained, rising, until it has voted
	vote     *king.Node  // what nodes agree on, from its vote on
}

// takeDeal takes what was dealt, if it is commitments of so many points, and a scalar.
func (d *dealer) takeDeal(count int, code, scalar string) {
	points, e := feld.Decode(code)
	if e != api.OK || len(points) != count {
		return
	}
	if s, e := field.Scalars().Decode(scalar); e == api.OK {
		d.dealt, d.share = code, s
	}
}

// settle finds the commitments by the marks that nodes told, and whether what was dealt is right by them.
func (d *dealer) settle(x *Node, marks []string) {
	d.points = d.commitments(x, marks)
	_, is, _ := cast.Sure(x.n, x.f, marks)
	// A mark of which it is sure is the one that is ready, if there is one.
	d.sure = is && d.points != nil
	d.has = d.dealt != "" && d.tells(x.self, d.share)
	if !d.has {
		d.share = api.Num{}
	}
	d.dealt, d.echoes = "", nil
}

// commitments are those of the mark that is ready; none, if there is no such mark, or nobody told them, or they are none.
func (d *dealer) commitments(x *Node, marks []string) []api.Point {
	mark, is, _ := cast.Ready(x.n, x.f, marks)
	if !is {
		return nil
	}
	code, is := cast.Find(mark, d.echoes)
	if !is {
		return nil
	}
	points, e := feld.Decode(code)
	if e != api.OK || len(points) != x.f+1 {
		return nil
	}
	return points
}

// tells tells whether there are commitments by which it is a node's share.
func (d *dealer) tells(node int, s api.Num) bool { return feld.Check(d.points, node, s) == api.OK }
