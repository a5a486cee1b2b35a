package writ

import (
	"wardmote/api"
	"wardmote/limb"
	"wardmote/oracle"
	"wardmote/queue"
)

// seen are the lines of a node's events.
func seen(i int, l []oracle.Event) []string {
	var out []string
	for _, e := range l {
		// Those of a bench are all of a kind.
		text, _ := Tell(i, e)
		out = append(out, text)
	}
	return out
}

// askedLine is that of a request that was submitted.
func askedLine(i int, e oracle.Event) string {
	z := noText
	if e.Answer == queue.Done {
		z = sum(e.Sig)
	}
	return lineOf("asked", number(i), number(e.R.ID), hex(e.R.M), number(e.Answer), z)
}

// repliedLine is that of a reply.
func repliedLine(i int, e oracle.Event) string {
	return lineOf("replied", number(i), number(e.R.ID), hex(e.R.M), sum(e.Sig))
}

// openedLine is that of a node that was opened again.
func openedLine(i int, e oracle.Event) string {
	words := []string{"opened", number(i)}
	for _, r := range e.L {
		words = append(words, number(r.ID))
	}
	return lineOf(words...)
}

// sum is the word for a signature's number.
func sum(s api.Sig) string { return hex(limb.Bytes(s.Z)) }
