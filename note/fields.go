package note

import (
	"wardmote/api"
	"wardmote/bind"
	"wardmote/field"
	"wardmote/schnorr"
)

// fields are those that a kind of notes has: bits.
type fields int

const (
	hasView fields = 1 << iota
	hasName        // Origin and ID
	hasSession
	hasM
	hasZ
	hasPair // L, of one pair
	hasList // L
	hasSig
)

// fieldsOf are a kind's; 0 of what is no kind.
func fieldsOf(kind int) fields {
	has := fields(0)
	switch kind {
	case Open:
		has |= hasList
		fallthrough
	case Ask:
		has |= hasView | hasSession
		fallthrough
	case Gossip:
		has |= hasName | hasM
	case Share:
		has |= hasZ
		fallthrough
	case Offer:
		has |= hasName | hasSession | hasPair
		fallthrough
	case Beat:
		has |= hasView
	case Final:
		has |= hasName | hasM | hasSig
	}
	return has
}

// numbers tells whether a note's numbers are such, and those that its kind has not are 0.
func (has fields) numbers(n Note) bool {
	return has.number(hasView, n.View, 0, api.MaxBig) && has.number(hasName, n.Origin, 1, api.MaxNodes) &&
		has.number(hasName, n.ID, 1, api.MaxBig) && has.number(hasSession, n.Session, 1, api.MaxBig)
}

// number tells whether a number is from least to most, or 0, if the kind has it not.
func (has fields) number(which fields, n, least, most int) bool {
	if has&which == 0 {
		return n == 0
	}
	return least <= n && n <= most
}

func (has fields) message(m string) bool {
	return m == "" || has&hasM != 0 && len(m) <= api.MaxText
}

func (has fields) scalar(z api.Num) bool {
	return z == api.Num{} || has&hasZ != 0 && field.Scalars().Check(z) == api.OK
}

func (has fields) list(l []bind.Pair) bool {
	if has&(hasPair|hasList) == 0 {
		return len(l) == 0
	}
	return bind.Check(l) == api.OK && (has&hasList != 0 || len(l) == 1)
}

// signature tells whether a signature is one, whatever it holds for, or the zero one, if the kind has none. (The zero one
// is none: its point is not of the curve.)
func (has fields) signature(s api.Sig) bool {
	if has&hasSig == 0 {
		return s == api.Sig{}
	}
	_, e := schnorr.Encode(s)
	return e == api.OK
}
