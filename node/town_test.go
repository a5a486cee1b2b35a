package node_test

import (
	"maps"
	"math/rand"
	"slices"
	"strconv"
	"testing"

	"wardmote/api"
	"wardmote/bind"
	"wardmote/disk"
	"wardmote/dkg"
	"wardmote/feld"
	"wardmote/node"
	"wardmote/queue"
	"wardmote/schnorr"
	"wardmote/share"
)

// mostFail is by n the greatest f with 3 f < n.
var mostFail = [...]int{1: 0, 2: 0, 3: 0, 4: 1, 5: 1, 6: 1, 7: 2, 8: 2, 9: 2, 10: 3}

// keysOf are the keys of n nodes; node 1's comes first.
func keysOf(n, f int) []dkg.Key {
	var line []api.Num
	for i := range f + 1 {
		line = append(line, api.Num{uint64(11 + 5*i), uint64(i)})
	}
	group, _ := feld.Commit(line)
	var out []dkg.Key
	for self := 1; self <= n; self++ {
		z, _ := share.Eval(line, self)
		out = append(out, dkg.Key{N: n, F: f, Self: self, Share: z, Public: group[0], Group: slices.Clone(group)})
	}
	return out
}

// seedOf is a node's seed.
func seedOf(self int) string { return "seed" + strconv.Itoa(self) }

// A letter is on its way.
type letter struct {
	from, to int
	text     string
}

// A town is nodes, their files, and the letters between them.
type town struct {
	t       *testing.T
	n, f    int
	odd     []int // nodes of which nothing is looked at
	keys    []dkg.Key
	files   []*disk.File
	nodes   []*node.Node // nil: it is down
	books   []*book
	letters []letter
	pairs   map[bind.Pair]bool // of all shares that were told
	crashed []bool             // since they were down
	spy     func(l letter)     // sees each letter that is sent
	count   counts
}

// counts are of what came about.
type counts struct{ replies, lives, blamed int }

// townOf is one in which all nodes are up.
func townOf(t *testing.T, n, f int, odd ...int) *town {
	t.Helper()
	x := &town{t: t, n: n, f: f, odd: odd, keys: keysOf(n, f), pairs: map[bind.Pair]bool{}, crashed: make([]bool, n), spy: func(letter) {}}
	for i := range n {
		x.files = append(x.files, disk.New())
		x.nodes = append(x.nodes, nil)
		x.books = append(x.books, &book{t: t, public: x.keys[0].Public, known: map[int]entry{}})
		x.open(i + 1)
	}
	return x
}

// open opens a node that is down.
func (x *town) open(self int) {
	x.t.Helper()
	o, e := node.Open(x.keys[self-1], seedOf(self), x.files[self-1])
	if e != api.OK {
		x.t.Fatalf("Open of %d: %v", self, e)
	}
	x.nodes[self-1], x.crashed[self-1] = o, false
	x.count.lives++
	if !slices.Contains(x.odd, self) {
		x.books[self-1].lasts(o)
		x.books[self-1].opened(o.Waiting())
	}
}

// down has a node's power go; its file keeps some bytes.
func (x *town) down(self, keep, mask int) {
	if o := x.nodes[self-1]; o != nil {
		x.look(self)
		x.pocket(self)
		x.nodes[self-1] = nil
	}
	if x.crashed[self-1] {
		return
	}
	x.crashed[self-1] = true
	length, synced := x.files[self-1].Len()
	if keep < 0 || keep > length-synced {
		keep = length - synced
	}
	if e := x.files[self-1].Crash(keep, mask); e != api.OK {
		x.t.Fatal(e)
	}
}

// pocket takes a node's shares of this life to those of all: none is told of a nonce that was used.
func (x *town) pocket(self int) {
	if slices.Contains(x.odd, self) {
		return
	}
	x.count.blamed += len(x.nodes[self-1].Blamed())
	for _, emit := range x.nodes[self-1].Emits() {
		if x.pairs[emit.Pair] || emit.Pair.Node != self {
			x.t.Fatalf("node %d told two shares of a nonce", self)
		}
		x.pairs[emit.Pair] = true
	}
}

// look looks for what a node replied, and whom it found bad.
func (x *town) look(self int) {
	o := x.nodes[self-1]
	if o == nil || slices.Contains(x.odd, self) {
		return
	}
	for _, reply := range o.Replies() {
		x.books[self-1].replied(reply)
		x.count.replies++
	}
	for _, bad := range o.Blamed() {
		if !slices.Contains(x.odd, bad) {
			x.t.Fatalf("node %d found %d bad", self, bad)
		}
	}
	if !slices.Equal(x.books[self-1].row, idsOf(o.Waiting())) && o.Up() {
		x.t.Fatalf("node %d: %v wait, not %v", self, o.Waiting(), x.books[self-1].row)
	}
}

// submit has a client submit a request.
func (x *town) submit(self int, r queue.Request) int {
	o := x.nodes[self-1]
	if !o.Up() {
		return 0
	}
	answer, sig := o.Submit(r)
	if !slices.Contains(x.odd, self) {
		x.t.Helper()
		x.books[self-1].asked(r, answer, sig)
	}
	x.look(self)
	return answer
}

// send has letters be on their way.
func (x *town) send(from int, outs []node.Out) {
	for _, out := range outs {
		if out.To < 1 || out.To > x.n || out.To == from {
			x.t.Fatalf("node %d sends %d", from, out.To)
		}
		if len(x.letters) < 2048 {
			x.letters = append(x.letters, letter{from: from, to: out.To, text: out.Text})
			x.spy(x.letters[len(x.letters)-1])
		}
	}
}

// tick has a node tick.
func (x *town) tick(self int) {
	x.send(self, x.nodes[self-1].Tick())
	x.look(self)
}

// deliver delivers a letter.
func (x *town) deliver(at int) {
	l := x.letters[at]
	x.letters = slices.Delete(x.letters, at, at+1)
	x.send(l.to, x.nodes[l.to-1].Hear(l.from, l.text))
	x.look(l.to)
}

// round has all nodes tick, and all letters come.
func (x *town) round() {
	for self := 1; self <= x.n; self++ {
		x.tick(self)
	}
	for len(x.letters) > 0 {
		x.deliver(0)
	}
}

// isQuiet tells whether nothing waits at a node that is not odd.
func (x *town) isQuiet() bool {
	for i, o := range x.nodes {
		if len(o.Waiting()) > 0 && !slices.Contains(x.odd, i+1) {
			return false
		}
	}
	return true
}

// settle has all nodes be up, and go on until nothing waits: within 400 rounds all is replied.
func (x *town) settle() {
	x.t.Helper()
	for self := 1; self <= x.n; self++ {
		x.down(self, 0, 0)
		x.open(self)
	}
	for rounds := 0; !x.isQuiet(); rounds++ {
		if rounds == 400 {
			x.t.Fatalf("n %d, f %d: something waits", x.n, x.f)
		}
		x.round()
	}
	for self := 1; self <= x.n; self++ {
		x.pocket(self)
		x.again(self)
	}
}

// again has a client submit all once more that it submitted.
func (x *town) again(self int) {
	x.t.Helper()
	known := x.books[self-1].known
	for _, id := range slices.Sorted(maps.Keys(known)) {
		for _, m := range known[id].may {
			x.submit(self, queue.Request{ID: id, M: m})
		}
	}
}

// idsOf are those of requests.
func idsOf(l []queue.Request) []int {
	var out []int
	for _, r := range l {
		out = append(out, r.ID)
	}
	return out
}

// An entry is what a client knows of an ID.
type entry struct {
	state int
	may   []string // the messages that it may be known with: one, unless it is unclear
	sig   api.Sig
}

// What is known of an ID.
const (
	nothing = iota
	waits
	done
	unclear // the power went while it was submitted, or it waited then
)

// has tells whether it may be known with a message.
func (k entry) has(m string) bool { return slices.Contains(k.may, m) }

// hasOther tells whether it may be known with another one.
func (k entry) hasOther(m string) bool {
	return slices.ContainsFunc(k.may, func(other string) bool { return other != m })
}

// A book is what a node's clients saw: whether it is what a queue that signs would have shown.
type book struct {
	t      *testing.T
	public api.Point
	known  map[int]entry
	row    []int // the IDs of those that wait
}

// holds tells whether a signature does.
func (b *book) holds(m string, s api.Sig) bool { return schnorr.Verify(b.public, m, s) == api.OK }

// isNew tells whether a request may be one that is not known.
func (k entry) isNew() bool { return k.state == nothing || k.state == unclear }

// asked takes an answer.
func (b *book) asked(r queue.Request, answer int, s api.Sig) {
	b.t.Helper()
	is := r.ID >= 1 && r.ID <= api.MaxBig && len(r.M) <= api.MaxText
	k := b.known[r.ID]
	right := answer == queue.Done || s == api.Sig{}
	switch answer {
	case 0:
		if is && k.isNew() {
			b.known[r.ID] = entry{state: unclear, may: append(slices.Clone(k.may), r.M)}
		}
	case queue.Reject:
		right = right && (!is || k.hasOther(r.M))
	case queue.Done:
		right = is && k.has(r.M) && (k.state == done && k.sig == s || k.state == unclear && b.holds(r.M, s))
		b.known[r.ID] = entry{state: done, may: []string{r.M}, sig: s}
	case queue.Accepted:
		right = right && is && (k.state == waits && k.has(r.M) || k.isNew() && len(b.row) < 8)
		if k.state != waits {
			b.wait(r)
		}
	case queue.Busy:
		right = right && is && k.isNew() && len(b.row) == 8
	default:
		right = false
	}
	if !right {
		b.t.Fatalf("%d of %d bytes: answer %d, known %d, %d wait", r.ID, len(r.M), answer, k.state, len(b.row))
	}
}

// wait has a request wait.
func (b *book) wait(r queue.Request) {
	b.known[r.ID] = entry{state: waits, may: []string{r.M}}
	b.row = append(b.row, r.ID)
}

// replied takes a reply.
func (b *book) replied(r node.Reply) {
	b.t.Helper()
	k := b.known[r.ID]
	if k.state != waits && k.state != unclear || !k.has(r.M) || !b.holds(r.M, r.Sig) {
		b.t.Fatalf("reply of %d: known %d", r.ID, k.state)
	}
	b.known[r.ID] = entry{state: done, may: []string{r.M}, sig: r.Sig}
	b.row = slices.DeleteFunc(b.row, func(id int) bool { return id == r.ID })
}

// opened takes what waits when a node is opened again.
func (b *book) opened(l []queue.Request) {
	b.t.Helper()
	for _, id := range b.row {
		k := b.known[id]
		k.state = unclear
		b.known[id] = k
	}
	b.row = nil
	for _, r := range l {
		k := b.known[r.ID]
		if k.state != unclear || !k.has(r.M) || len(b.row) == 8 {
			b.t.Fatalf("%d waits when it is opened: known %d", r.ID, k.state)
		}
		b.wait(r)
	}
}

// lasts looks for all that was accepted, and for what was done.
func (b *book) lasts(x *node.Node) {
	b.t.Helper()
	for _, id := range slices.Sorted(maps.Keys(b.known)) {
		k := b.known[id]
		if k.state != waits && k.state != done {
			continue
		}
		r := queue.Request{ID: id, M: k.may[0]}
		if k.state == waits && slices.Contains(x.Waiting(), r) {
			continue
		}
		answer, sig := x.Submit(r)
		if answer != queue.Done || !b.holds(r.M, sig) || k.state == done && k.sig != sig {
			b.t.Fatalf("%d was known as %d, and is answered %d", id, k.state, answer)
		}
	}
}

// 24.2 to 24.4, and the promises of the whole: whatever happens, each node is a queue that signs, no two shares are told of
// one nonce, nobody is blamed that is not odd, and all that was accepted is replied in the end.
func TestTowns(t *testing.T) {
	var all counts
	for seed := range int64(24) {
		source := rand.New(rand.NewSource(seed))
		n := 1 + source.Intn(7)
		var odd []int
		for _, i := range source.Perm(n)[:mostFail[n]] {
			if source.Intn(3) > 0 {
				odd = append(odd, i+1)
			}
		}
		x := townOf(t, n, mostFail[n], odd...)
		f := forgerOf(source, x)
		for range 200 {
			x.step(source)
			if len(odd) > 0 && source.Intn(2) == 0 {
				f.forge()
			}
		}
		x.settle()
		all.replies += x.count.replies
		all.lives += x.count.lives
		all.blamed += x.count.blamed
	}
	if all.replies < 200 || all.lives < 200 || all.blamed < 5 {
		t.Errorf("not much came about: %+v", all)
	}
}

// step does one thing, of which any may be.
func (x *town) step(source *rand.Rand) {
	self := 1 + source.Intn(x.n)
	switch source.Intn(16) {
	case 0, 1, 2:
		x.submit(self, queue.Request{ID: source.Intn(30), M: "m" + strconv.Itoa(source.Intn(3))})
	case 3, 4, 5:
		x.tick(self)
	case 6:
		x.down(self, source.Intn(60)-10, source.Intn(256)*source.Intn(2))
	case 7:
		if !x.nodes[self-1].Up() {
			x.down(self, 0, 0)
			x.open(self)
		}
	case 8:
		x.nodes[self-1].Fuse(source.Intn(6))
	case 9, 10:
		for range source.Intn(4) {
			x.round()
		}
	default:
		if len(x.letters) > 0 {
			at := source.Intn(len(x.letters))
			switch source.Intn(8) {
			case 0:
				x.letters = slices.Delete(x.letters, at, at+1)
			case 1:
				x.letters = append(x.letters, x.letters[at])
			default:
				x.deliver(at)
			}
		}
	}
}
