package dkg

import (
	"wardmote/api"
	"wardmote/feld"
	"wardmote/field"
)

// makeKey is the key of the dealers that nodes agreed on, and whether there is one.
func (x *Node) makeKey() (Key, bool) {
	key := Key{N: x.n, F: x.f, Self: x.self}
	var lists [][]api.Point
	for i, d := range x.dealers {
		if value, _ := d.vote.Done(); value != 1 {
			continue
		}
		if !d.has {
			return Key{}, false
		}
		key.Dealers = append(key.Dealers, i+1)
		key.Share, _ = field.Scalars().Add(key.Share, d.share)
		lists = append(lists, d.points)
	}
	// Of no dealer there is no sum.
	group, e := feld.Sum(lists)
	if e != api.OK || group[0].Inf {
		return Key{}, false
	}
	key.Group, key.Public = group, group[0]
	return key, true
}
