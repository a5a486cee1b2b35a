package bench_test

import (
	"reflect"
	"slices"
	"testing"

	"wardmote/api"
	"wardmote/bench"
	"wardmote/disk"
	"wardmote/dkg"
	"wardmote/domain"
	"wardmote/feld"
	"wardmote/field"
	"wardmote/node"
	"wardmote/oracle"
	"wardmote/queue"
	"wardmote/share"
)

// A letter is one that waits.
type letter struct {
	from, to int
	text     string
}

// A plain is a bench that keeps all that ever was, and whose letters can be looked at. Lists are by the nodes' numbers.
type plain struct {
	n, f, odd int
	seed      string
	keys      []dkg.Key
	files     []*disk.File
	lives     [][]*node.Node
	down      []bool // its file crashed, and it was not opened since
	events    [][]oracle.Event
	letters   []letter
}

// plainOf is one whose nodes are opened.
func plainOf(t *testing.T, n, f int, seed string, odd int) *plain {
	t.Helper()
	p := &plain{n: n, f: f, odd: odd, seed: seed, keys: keysOf(n, f, seed), files: make([]*disk.File, n+1)}
	p.lives, p.down, p.events = make([][]*node.Node, n+1), make([]bool, n+1), make([][]oracle.Event, n+1)
	for i := 1; i <= n; i++ {
		p.files[i] = disk.New()
		if !p.open(i) {
			t.Fatalf("node %d was not opened", i)
		}
	}
	return p
}

// seedOf is a node's seed.
func seedOf(seed string, i int) string { return string(append([]byte(seed), byte(i))) }

// line is the polynomial of the key: all dealers' together.
func line(n, f int, seed string) []api.Num {
	sum := make([]api.Num, f+1)
	for dealer := 1; dealer <= n; dealer++ {
		for i := range sum {
			c, _ := domain.Draw(seedOf(seed, dealer), "wardmote/deal", i)
			sum[i], _ = field.Scalars().Add(sum[i], c)
		}
	}
	return sum
}

// keysOf are the nodes' keys, by their numbers.
func keysOf(n, f int, seed string) []dkg.Key {
	all := line(n, f, seed)
	group, _ := feld.Commit(all)
	var dealers []int
	out := []dkg.Key{{}}
	for i := 1; i <= n; i++ {
		dealers = append(dealers, i)
		z, _ := share.Eval(all, i)
		out = append(out, dkg.Key{N: n, F: f, Self: i, Share: z, Public: group[0], Group: group})
	}
	for i := range n {
		out[i+1].Dealers = dealers
	}
	return out
}

// has tells whether there is such a node.
func (p *plain) has(i int) bool { return i > 0 && i <= p.n }

// isOdd tells whether a node is odd.
func (p *plain) isOdd(i int) bool { return p.has(i) && p.odd&(1<<(i-1)) != 0 }

// up is a node that is up, or nil.
func (p *plain) up(i int) *node.Node {
	if !p.has(i) || p.down[i] {
		return nil
	}
	if x := p.lives[i][len(p.lives[i])-1]; x.Up() {
		return x
	}
	return nil
}

// open opens a node, if there is room in its file.
func (p *plain) open(i int) bool {
	x, e := node.Open(p.keys[i], seedOf(p.seed, i), p.files[i])
	if e == api.OK {
		p.lives[i], p.down[i] = append(p.lives[i], x), false
	}
	return e == api.OK
}

// send has letters wait.
func (p *plain) send(from int, outs []node.Out) {
	for _, out := range outs {
		p.post(letter{from, out.To, out.Text})
	}
}

// post has a letter wait, if fewer than 2048 do.
func (p *plain) post(l letter) {
	if len(p.letters) < 2048 {
		p.letters = append(p.letters, l)
	}
}

// without are all letters but one.
func (p *plain) without(at int) []letter { return slices.Concat(p.letters[:at], p.letters[at+1:]) }

// hear has a letter come.
func (p *plain) hear(at int) {
	l := p.letters[at]
	p.letters = p.without(at)
	p.send(l.to, p.up(l.to).Hear(l.from, l.text))
}

// sees has a node's clients see something.
func (p *plain) sees(i int, e oracle.Event) { p.events[i] = append(p.events[i], e) }

// crash has a node be down, and its file crash.
func (p *plain) crash(i, keep, mask int) {
	if p.down[i] {
		return
	}
	p.down[i] = true
	all, synced := p.files[i].Len()
	if all -= synced; keep < 0 || keep > all {
		keep = all
	}
	if mask&255 != mask {
		mask = 0
	}
	p.files[i].Crash(keep, mask)
}

// step does a choice: what is seen.
func (p *plain) step(x api.Choice) []oracle.Event {
	var before []int
	for _, l := range p.events {
		before = append(before, len(l))
	}
	p.do(x)
	var out []oracle.Event
	for i := 1; i <= p.n; i++ {
		for _, r := range p.lives[i][len(p.lives[i])-1].Replies() {
			p.sees(i, oracle.Event{Kind: oracle.Replied, R: queue.Request{ID: r.ID, M: r.M}, Sig: r.Sig})
		}
		out = append(out, p.events[i][before[i]:]...)
	}
	if x.Kind == api.DoRound {
		return nil
	}
	return out
}

// do does a choice.
func (p *plain) do(x api.Choice) {
	up, is, waits := p.up(x.Node), p.has(x.Node), x.N >= 0 && x.N < len(p.letters)
	switch {
	case x.Kind == api.DoSubmit && up != nil:
		r := queue.Request{ID: x.ID, M: x.M}
		answer, s := up.Submit(r)
		p.sees(x.Node, oracle.Event{Kind: oracle.Asked, Answer: answer, R: r, Sig: s})
	case x.Kind == api.DoTick:
		p.send(x.Node, up.Tick())
	case x.Kind == api.DoDeliver && waits:
		p.hear(x.N)
	case x.Kind == api.DoLose && waits:
		p.letters = p.without(x.N)
	case x.Kind == api.DoAgain && waits:
		p.post(p.letters[x.N])
	case x.Kind == api.DoDown && is:
		p.crash(x.Node, x.N, x.Mask)
	case x.Kind == api.DoStart && is && up == nil:
		p.crash(x.Node, 0, 0)
		if p.open(x.Node) {
			p.sees(x.Node, oracle.Event{Kind: oracle.Opened, L: p.up(x.Node).Waiting()})
		}
	case x.Kind == api.DoFuse:
		up.Fuse(x.N)
	case x.Kind == api.DoForge && p.isOdd(x.Node) && p.has(x.N) && x.N != x.Node:
		p.post(letter{x.Node, x.N, x.M})
	case x.Kind == api.DoRound && x.N > 0 && x.N < 51:
		for range x.N {
			p.round()
		}
	}
}

// round has all nodes tick, and all letters come.
func (p *plain) round() {
	for i := 1; i <= p.n; i++ {
		p.send(i, p.up(i).Tick())
	}
	for len(p.letters) > 0 {
		p.hear(0)
	}
}

// emits are all shares that a node told.
func (p *plain) emits(i int) []node.Emit {
	var out []node.Emit
	for _, x := range p.lives[i] {
		out = append(out, x.Emits()...)
	}
	return out
}

// blamed are the nodes that a node found bad.
func (p *plain) blamed(i int) []int {
	var out []int
	for _, x := range p.lives[i] {
		out = append(out, x.Blamed()...)
	}
	slices.Sort(out)
	return slices.Compact(out)
}

// sameEvents tells whether events are the same; a list without an element may be nil or empty.
func sameEvents(a, b []oracle.Event) bool {
	return slices.EqualFunc(a, b, func(x, y oracle.Event) bool {
		return x.Kind == y.Kind && x.Answer == y.Answer && x.R == y.R && x.Sig == y.Sig && slices.Equal(x.L, y.L)
	})
}

// pair is a bench, and a plain one, to which the same is done.
type pair struct {
	t   *testing.T
	b   *bench.Bench
	p   *plain
	spy func(c api.Choice) // sees each choice
}

// pairOf is a bench of a table, and a plain one.
func pairOf(t *testing.T, n, f int, seed string, odd int) *pair {
	t.Helper()
	b, e := bench.New(n, f, seed, odd)
	if e != api.OK {
		t.Fatalf("New(%d, %d, %q, %d): %v", n, f, seed, odd, e)
	}
	x := &pair{t: t, b: b, p: plainOf(t, n, f, seed, odd), spy: func(api.Choice) {}}
	x.like()
	return x
}

// step does a choice to both: what is seen.
func (x *pair) step(c api.Choice) []oracle.Event {
	x.t.Helper()
	x.spy(c)
	got, want := x.b.Step(c), x.p.step(c)
	if !sameEvents(got, want) || x.b.Letters() != len(x.p.letters) {
		x.t.Fatalf("Step(%+v): %+v, %d letters, not %+v, %d", c, got, x.b.Letters(), want, len(x.p.letters))
	}
	x.likeNode(c.Node)
	return got
}

// like looks whether both tell the same of all nodes.
func (x *pair) like() {
	x.t.Helper()
	for i := -1; i <= x.p.n+2; i++ {
		x.likeNode(i)
		if !x.p.has(i) {
			continue
		}
		if got, want := x.b.Events(i), x.p.events[i]; !sameEvents(got, want) {
			x.t.Fatalf("Events(%d): %+v, not %+v", i, got, want)
		}
		if got, want := x.b.Emits(i), x.p.emits(i); !slices.Equal(got, want) {
			x.t.Fatalf("Emits(%d): %+v, not %+v", i, got, want)
		}
		if got, want := x.b.Blamed(i), x.p.blamed(i); !slices.Equal(got, want) {
			x.t.Fatalf("Blamed(%d): %v, not %v", i, got, want)
		}
	}
	if got, want := x.b.Letters(), len(x.p.letters); got != want {
		x.t.Fatalf("Letters: %d, not %d", got, want)
	}
}

// likeNode looks whether both tell the same of a node, or nothing, if there is none.
func (x *pair) likeNode(i int) {
	x.t.Helper()
	up := x.p.up(i)
	view, waiting := 0, []queue.Request(nil)
	if up != nil {
		view, waiting = up.View(), up.Waiting()
	}
	if x.b.Up(i) != (up != nil) || x.b.View(i) != view || !slices.Equal(x.b.Waiting(i), waiting) {
		x.t.Fatalf("node %d: %t, view %d, %+v, not %t, %d, %+v", i, x.b.Up(i), x.b.View(i), x.b.Waiting(i), up != nil, view, waiting)
	}
	if x.p.has(i) {
		return
	}
	if x.b.Events(i) != nil || x.b.Emits(i) != nil || x.b.Blamed(i) != nil || !reflect.DeepEqual(x.b.Key(i), dkg.Key{}) {
		x.t.Fatalf("node %d, which there is not, has something", i)
	}
}
