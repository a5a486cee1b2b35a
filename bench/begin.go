package bench

import (
	"math/bits"

	"wardmote/api"
	"wardmote/disk"
	"wardmote/dkg"
)

// maxSeed is how many bytes a bench's seed has.
const maxSeed = 60

// check tells whether there is such a bench.
func check(n, f int, seed string, odd int) api.Errno {
	_, e := dkg.New(n, f, 1, "")
	switch {
	case e != api.OK: // it is no table
		return e
	case odd>>n != 0, bits.OnesCount(uint(odd)) > f: // one below 0 has bits of no node
		return api.ErrArg
	case len(seed) > maxSeed:
		return api.ErrLong
	}
	return api.OK
}

// seatsOf are those of nodes that made a key, with files without bytes.
func seatsOf(n, f int, seed string) []seat {
	seats, makers := make([]seat, n), make([]*dkg.Node, n)
	for i := range n {
		seats[i] = seat{seed: seed + string([]byte{byte(i + 1)}), file: disk.New()}
		makers[i], _ = dkg.New(n, f, i+1, seats[i].seed)
	}
	for range makers[0].Rounds() {
		goRound(makers)
	}
	for i, x := range makers {
		seats[i].key, _ = x.Key()
	}
	return seats
}

// goRound has nodes that make a key go through a round.
func goRound(makers []*dkg.Node) {
	told := make([][]string, len(makers))
	for _, from := range makers {
		for to, text := range from.Send() {
			told[to] = append(told[to], text)
		}
	}
	for i, x := range makers {
		x.Hear(told[i])
	}
}
