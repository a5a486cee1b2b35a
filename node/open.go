package node

import (
	"slices"

	"wardmote/api"
	"wardmote/beat"
	"wardmote/bind"
	"wardmote/disk"
	"wardmote/dkg"
	"wardmote/ledger"
	"wardmote/link"
	"wardmote/queue"
	"wardmote/signer"
)

// check tells whether a node can be opened. A file in which no Life can be written is found ahead of all that changes it.
func check(k dkg.Key, seed string, f *disk.File) api.Errno {
	_, e := signer.New(k, seed, 0)
	switch {
	case f == nil: // a key that does not serve is ErrArg, too
		return api.ErrArg
	case e != api.OK:
		return e
	case !hasRoom(f):
		return api.ErrFull
	}
	return api.OK
}

// hasRoom tells whether a Life can be written behind what a file tells.
func hasRoom(f *disk.File) bool {
	_, end := ledger.Read(f.Bytes())
	one := &Node{up: true}
	trial := disk.New()
	one.log, _ = ledger.Open(trial)
	one.keep(lifeKind)
	size, _ := trial.Len()
	return end+size <= disk.MaxFile
}

// wake is Open of what was checked, so that there is no error.
func wake(k dkg.Key, seed string, f *disk.File) *Node {
	k.Group, k.Dealers = slices.Clone(k.Group), nil
	x := &Node{key: k, up: true, queue: queue.New(), nonces: map[bind.Pair]int{}, final: map[name]api.Sig{}}
	x.log, _ = ledger.Open(f)
	x.keep(lifeKind)
	used := 0
	for _, record := range x.log.Records() {
		used = max(used, x.recall(record))
	}
	x.signer, _ = signer.New(k, seed, used)
	x.watch, _ = beat.New(k.N, k.Self, 0)
	x.others(x.meet)
	return x
}

// meet has the ends of the links with a node.
func (x *Node) meet(node int) {
	p := &x.peers[node]
	p.sender, _ = link.NewSender(lifeSpan * x.life)
	p.taker = link.NewTaker()
}
