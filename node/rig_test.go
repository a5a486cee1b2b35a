package node_test

import (
	"reflect"
	"slices"
	"strings"
	"testing"

	"wardmote/api"
	"wardmote/bind"
	"wardmote/disk"
	"wardmote/dkg"
	"wardmote/ledger"
	"wardmote/link"
	"wardmote/node"
	"wardmote/note"
	"wardmote/queue"
	"wardmote/schnorr"
	"wardmote/signer"
)

// A mate is another node, as a test plays it.
type mate struct {
	s     *link.Sender
	r     *link.Taker
	hand  *signer.Signer
	mute  bool // nothing comes to it
	heard []note.Note
}

// A rig is a node, and its mates.
type rig struct {
	t     testing.TB
	x     *node.Node
	file  *disk.File
	keys  []dkg.Key
	self  int
	mates []*mate // by their numbers; there is none of the node itself
}

// full has as many bytes as a message may have, and long one more.
var (
	full = strings.Repeat("m", 4096)
	long = full + "m"
)

// rigOf is a node of a table, with an empty file.
func rigOf(t testing.TB, n, f, self int) *rig { return rigIn(t, n, f, self, disk.New()) }

// rigIn is one with a file.
func rigIn(t testing.TB, n, f, self int, file *disk.File) *rig {
	t.Helper()
	x := &rig{t: t, file: file, keys: keysOf(n, f), self: self, mates: make([]*mate, n+1)}
	for other := 1; other <= n; other++ {
		if other != self {
			x.mates[other] = &mate{}
			x.meet(other, 1024)
			x.mates[other].hand, _ = signer.New(x.keys[other-1], seedOf(other), 0)
		}
	}
	x.open()
	return x
}

// open opens the node, of what its file has.
func (x *rig) open() {
	x.t.Helper()
	var e api.Errno
	if x.x, e = node.Open(x.keys[x.self-1], seedOf(x.self), x.file); e != api.OK || !x.x.Up() {
		x.t.Fatalf("Open: %v", e)
	}
}

// meet has a mate be opened anew, with that sender's life.
func (x *rig) meet(other, life int) {
	x.mates[other].s, _ = link.NewSender(life)
	x.mates[other].r = link.NewTaker()
}

// again has the power go, and the node be opened of what is kept.
func (x *rig) again(keep, mask int) {
	x.t.Helper()
	if e := x.file.Crash(keep, mask); e != api.OK {
		x.t.Fatal(e)
	}
	x.open()
}

// request is one.
func request(id int, m string) queue.Request { return queue.Request{ID: id, M: m} }

// submits looks for an answer that has no signature.
func (x *rig) submits(r queue.Request, want int) {
	x.t.Helper()
	if got, s := x.x.Submit(r); got != want || s != (api.Sig{}) {
		x.t.Fatalf("Submit of %d, %d bytes: %d, %v, not %d", r.ID, len(r.M), got, s, want)
	}
}

// isDone looks for the signature of a request that is done.
func (x *rig) isDone(r queue.Request) api.Sig {
	x.t.Helper()
	got, s := x.x.Submit(r)
	if got != queue.Done || schnorr.Verify(x.keys[0].Public, r.M, s) != api.OK {
		x.t.Fatalf("Submit of %d, %d bytes: %d, %v", r.ID, len(r.M), got, s)
	}
	return s
}

// waits looks for the IDs of those that wait.
func (x *rig) waits(want ...int) {
	x.t.Helper()
	if got := idsOf(x.x.Waiting()); !slices.Equal(got, want) {
		x.t.Fatalf("%v wait, not %v", got, want)
	}
}

// replies looks for replies.
func (x *rig) replies(want ...queue.Request) {
	x.t.Helper()
	got := x.x.Replies()
	if len(got) != len(want) {
		x.t.Fatalf("%d replies, not %d", len(got), len(want))
	}
	for i, r := range got {
		if r.ID != want[i].ID || r.M != want[i].M || schnorr.Verify(x.keys[0].Public, r.M, r.Sig) != api.OK {
			x.t.Fatalf("reply %d: %v", i, r)
		}
	}
}

// hears delivers a letter of which nothing is sent.
func (x *rig) hears(from int, text string) {
	x.t.Helper()
	if out := x.x.Hear(from, text); len(out) != 0 {
		x.t.Fatalf("Hear of %d, %.80q: %v", from, text, out)
	}
}

// takes delivers a letter of which an ack is sent.
func (x *rig) takes(from int, text, ack string) {
	x.t.Helper()
	out := x.x.Hear(from, text)
	if len(out) != 1 || out[0] != (node.Out{To: from, Text: ack}) {
		x.t.Fatalf("Hear of %d, %.80q: %v, not an ack %q", from, text, out, ack)
	}
}

// ack is one.
func ack(life, number int) string { return packed(2, eight(life), eight(number)) }

// text are a note's bytes.
func (x *rig) text(n note.Note) string {
	x.t.Helper()
	s, e := note.Encode(n)
	if e != api.OK {
		x.t.Fatalf("no note: %v", n)
	}
	return s
}

// tell has a mate tell the node a note.
func (x *rig) tell(from int, n note.Note) {
	x.t.Helper()
	m := x.mates[from]
	if _, e := m.s.Push(x.text(n)); e != api.OK {
		x.t.Fatal(e)
	}
	for _, frame := range m.s.Frames() {
		for _, out := range x.x.Hear(from, frame) {
			if _, e := m.s.Heard(out.Text); out.To != from || e != api.OK {
				x.t.Fatalf("node %d is sent %q: %v", out.To, out.Text, e)
			}
		}
	}
}

// tick has the node tick, and all that it sends come.
func (x *rig) tick() {
	x.t.Helper()
	for _, out := range x.x.Tick() {
		m := x.mates[out.To]
		if m.mute {
			continue
		}
		text, is, e := m.r.Take(out.Text)
		n, wrong := note.Decode(text)
		if e != api.OK || is && wrong != api.OK {
			x.t.Fatalf("node %d is sent %q: %v, %v", out.To, out.Text, e, wrong)
		}
		if is {
			m.heard = append(m.heard, n)
		}
		x.hears(out.To, m.r.Ack())
	}
}

// ticks has it tick so often.
func (x *rig) ticks(count int) {
	x.t.Helper()
	for range count {
		x.tick()
	}
}

// told are the notes that a mate was told since it was asked last, but for Beats.
func (x *rig) told(other int) []note.Note {
	m := x.mates[other]
	out := slices.DeleteFunc(m.heard, func(n note.Note) bool { return n.Kind == note.Beat })
	m.heard = nil
	return out
}

// forget ticks, and lets go what all mates were told.
func (x *rig) forget() {
	x.t.Helper()
	x.tick()
	for _, m := range x.mates {
		if m != nil {
			m.heard = nil
		}
	}
}

// hasTold looks for what a mate was told, behind a tick, but for Beats.
func (x *rig) hasTold(other int, want ...note.Note) {
	x.t.Helper()
	x.tick()
	got := x.told(other)
	if len(got) != len(want) || len(want) > 0 && !reflect.DeepEqual(got, want) {
		x.t.Fatalf("node %d was told %v, not %v", other, show(got), show(want))
	}
}

// show are notes, for people.
func show(l []note.Note) []note.Note {
	l = slices.Clone(l)
	for i := range l {
		l[i].M = l[i].M[:min(4, len(l[i].M))]
	}
	return l
}

// nonce is one of the node's own, by its number: its pair.
func (x *rig) nonce(number int) bind.Pair {
	x.t.Helper()
	s, e := signer.New(x.keys[x.self-1], seedOf(x.self), number-1)
	_, pair, full := s.Issue()
	if e != api.OK || full != api.OK {
		x.t.Fatal(e, full)
	}
	return pair
}

// issue is a mate's next nonce: its number, and its pair.
func (x *rig) issue(other int) (int, bind.Pair) {
	n, pair, _ := x.mates[other].hand.Issue()
	return n, pair
}

// pairOf is a mate's next nonce's pair.
func (x *rig) pairOf(other int) bind.Pair {
	_, pair := x.issue(other)
	return pair
}

// listOf are pairs by their nodes.
func listOf(l ...bind.Pair) []bind.Pair {
	slices.SortFunc(l, func(a, b bind.Pair) int { return a.Node - b.Node })
	return l
}

// records are those of the file, behind the Lives, that last.
func (x *rig) records() []string {
	_, synced := x.file.Len()
	all, _ := ledger.Read(x.file.Bytes()[:synced])
	return slices.DeleteFunc(all, func(s string) bool { return s == packed(40) })
}

// keeps looks for the records of the file, behind the Lives: all of them last.
func (x *rig) keeps(want ...string) {
	x.t.Helper()
	if length, synced := x.file.Len(); length != synced {
		x.t.Fatalf("%d of %d bytes are synced", synced, length)
	}
	if got := x.records(); !slices.Equal(got, want) {
		x.t.Fatalf("records: %.300q, not %.300q", got, want)
	}
}

// What the node's records are.
func acceptOf(id int, m string) string { return packed(41, eight(id), m) }

func spentOf(nonce int) string { return packed(42, eight(nonce)) }

func finishOf(id int, m string, s api.Sig) string {
	code, _ := schnorr.Encode(s)
	return packed(43, eight(id), m, code)
}

// sigOf is a signature that holds.
func (x *rig) sigOf(m string) api.Sig { return sigOf(x.keys[0].Public, m) }

// sigOf is a signature that holds, of the secret that all keys here are of.
func sigOf(public api.Point, m string) api.Sig {
	s, e := schnorr.Sign(api.Num{11}, api.Num{uint64(7 + len(m))}, m)
	if e != api.OK || schnorr.Verify(public, m, s) != api.OK {
		panic("no signature")
	}
	return s
}

// The notes, as tests have them told.
func gossipOf(origin, id int, m string) note.Note {
	return note.Note{Kind: note.Gossip, Origin: origin, ID: id, M: m}
}

func askOf(view, origin, id, session int, m string) note.Note {
	return note.Note{Kind: note.Ask, View: view, Origin: origin, ID: id, Session: session, M: m}
}

func offerOf(view, origin, id, session int, pair bind.Pair) note.Note {
	return note.Note{Kind: note.Offer, View: view, Origin: origin, ID: id, Session: session, L: []bind.Pair{pair}}
}

func openOf(view, origin, id, session int, m string, l []bind.Pair) note.Note {
	return note.Note{Kind: note.Open, View: view, Origin: origin, ID: id, Session: session, M: m, L: l}
}

func shareOf(view, origin, id, session int, z api.Num, next bind.Pair) note.Note {
	return note.Note{Kind: note.Share, View: view, Origin: origin, ID: id, Session: session, Z: z, L: []bind.Pair{next}}
}

func finalOf(origin, id int, m string, s api.Sig) note.Note {
	return note.Note{Kind: note.Final, Origin: origin, ID: id, M: m, Sig: s}
}

func beatOf(view int) note.Note { return note.Note{Kind: note.Beat, View: view} }
