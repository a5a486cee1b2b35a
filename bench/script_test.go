package bench_test

import (
	"math/rand"
	"strconv"
	"testing"

	"wardmote/api"
	"wardmote/bind"
	"wardmote/oracle"
	"wardmote/queue"
	"wardmote/schnorr"
)

// A player plays a script of which any choice may come.
type player struct {
	*pair
	source *rand.Rand
	liar   *liar
	fused  []bool // by nodes: the power may go while a request is submitted
	calm   bool   // no power goes
}

// newSource is one that draws the same again and again.
func newSource(seed int64) *rand.Rand { return rand.New(rand.NewSource(seed)) }

// playerOf is one of a table, some of whose nodes are odd.
func playerOf(t *testing.T, seed int64, n int) *player {
	t.Helper()
	source := newSource(seed)
	odd := 0
	for _, i := range source.Perm(n)[:mostFail[n]] {
		if source.Intn(3) > 0 {
			odd |= 1 << i
		}
	}
	x := &player{pair: pairOf(t, n, mostFail[n], "s"+strconv.Itoa(int(seed)), odd), source: source, fused: make([]bool, n+3)}
	x.liar = &liar{source: source, x: x.pair}
	x.calm = source.Intn(4) == 0
	return x
}

// play does some choices.
func (x *player) play(count int) {
	x.t.Helper()
	for range count {
		if c := x.choice(); !x.calm || c.Kind != api.DoDown && c.Kind != api.DoFuse {
			x.step(c)
		}
		for x.p.odd != 0 && x.source.Intn(2) == 0 {
			x.liar.lie()
		}
		if x.p.odd != 0 && x.source.Intn(4) == 0 {
			x.round()
		}
	}
	x.like()
}

// round is one in which odd nodes tell now this, now that.
func (x *player) round() {
	x.t.Helper()
	for i := 1; i <= x.p.n; i++ {
		x.step(tick(i))
	}
	for len(x.p.letters) > 0 {
		if !x.liar.lieAt(0) {
			x.step(api.Choice{Kind: api.DoDeliver})
		}
	}
}

// choice is any.
func (x *player) choice() api.Choice {
	any := x.source.Intn
	i := any(x.p.n+2) - any(2)
	c := api.Choice{Node: i, N: any(len(x.p.letters)+2) - 1, ID: any(24), Mask: any(400) - 50, M: "m"}
	switch k := any(20); k {
	case 0, 1, 2:
		c.Kind, c.M = api.DoSubmit, x.message(i, c.ID)
	case 3, 4, 5:
		c.Kind = api.DoTick
	case 6:
		c.Kind, c.N = api.DoDown, any(70)-10
	case 7:
		c.Kind = api.DoStart
	case 8:
		c.Kind, c.N = api.DoFuse, any(6)
		x.fused[max(i, 0)] = true
	case 9:
		c.Kind, c.N = api.DoForge, any(x.p.n+2)
	case 10, 11:
		c.Kind, c.N = api.DoRound, any(4)
	case 12:
		c.Kind = api.DoLose
	case 13:
		c.Kind = api.DoAgain
	case 14:
		c.Kind = any(14)
	default:
		c.Kind = api.DoDeliver
	}
	return c
}

// message is what a client submits by an ID. Where the power may go meanwhile it is always the same: when a request was
// submitted twice so, with two messages, nobody could tell which one is kept (TestTwoMessages).
func (x *player) message(i, id int) string {
	if x.fused[max(i, 0)] || x.source.Intn(6) > 0 {
		return "m" + strconv.Itoa(id%3)
	}
	return "m" + strconv.Itoa(x.source.Intn(3))
}

// start has all nodes be up that are not odd, without a fuse.
func (x *player) start() {
	x.t.Helper()
	for i := 1; i <= x.p.n; i++ {
		if !x.p.isOdd(i) {
			x.step(down(i, x.source.Intn(80)-20, 0))
			x.step(start(i))
		}
	}
}

// isQuiet tells whether nothing waits at a node that is not odd.
func (x *player) isQuiet() bool {
	for i := 1; i <= x.p.n; i++ {
		if !x.p.isOdd(i) && len(x.b.Waiting(i)) > 0 {
			return false
		}
	}
	return true
}

// settle goes on until nothing waits; loses tells which letters of odd nodes are lost. It is how many rounds it took.
func (x *player) settle(loses func(l letter) bool) int {
	x.t.Helper()
	for count := range 400 {
		if x.isQuiet() {
			return count
		}
		for i := 1; i <= x.p.n; i++ {
			x.step(tick(i))
		}
		for len(x.p.letters) > 0 {
			if l := x.p.letters[0]; x.p.isOdd(l.from) && loses(l) {
				x.step(api.Choice{Kind: api.DoLose})
			} else {
				x.step(api.Choice{Kind: api.DoDeliver})
			}
		}
	}
	if !x.isQuiet() {
		x.t.Fatalf("n %d, odd %b: something waits behind 400 rounds", x.p.n, x.p.odd)
	}
	return 400
}

// holds looks at what was seen of all nodes that are not odd: 26.2 to 26.5.
func (x *player) holds(c *counts) {
	x.t.Helper()
	seen := map[bind.Pair]bool{}
	for i := 1; i <= x.p.n; i++ {
		if x.p.isOdd(i) {
			continue
		}
		l := x.b.Events(i)
		if rule, at, e := oracle.Check(x.b.Public(), l); rule != 0 || at != 0 || e != api.OK {
			x.t.Fatalf("node %d breaks rule %d by event %d of %+v: %v", i, rule, at, l, e)
		}
		for _, e := range l {
			if e.Kind != oracle.Replied && e.Answer != queue.Done {
				continue
			}
			if schnorr.Verify(x.b.Public(), e.R.M, e.Sig) != api.OK {
				x.t.Fatalf("node %d: %+v has a signature that does not hold", i, e)
			}
			c.signed++
		}
		for _, told := range x.b.Emits(i) {
			if seen[told.Pair] || told.Pair.Node != i {
				x.t.Fatalf("node %d told two shares of a nonce", i)
			}
			seen[told.Pair] = true
			c.shares++
		}
		for _, bad := range x.b.Blamed(i) {
			if !x.p.isOdd(bad) {
				x.t.Fatalf("node %d found %d bad", i, bad)
			}
			c.blamed++
		}
		c.lives += len(x.p.lives[i])
	}
}

// counts are of what came about.
type counts struct{ signed, shares, blamed, lives int }

// again has clients submit all once more that they submitted.
func (x *player) again() {
	x.t.Helper()
	for i := 1; i <= x.p.n; i++ {
		for _, e := range x.b.Events(i) {
			if e.Kind == oracle.Asked && x.source.Intn(3) == 0 {
				x.step(submit(i, e.R.ID, e.R.M))
			}
		}
	}
}

// 26.1 to 26.6: whatever a script chooses, a bench is as a plain one; what nodes that are not odd tell keeps all rules, and
// what they accepted is replied in the end, whatever becomes of odd nodes' letters.
func TestScripts(t *testing.T) {
	var each [32]counts
	t.Run("all", func(t *testing.T) {
		for seed := range each {
			t.Run(strconv.Itoa(seed), func(t *testing.T) {
				t.Parallel()
				x := playerOf(t, int64(seed), 1+seed%8+seed/30)
				x.play(150)
				x.holds(new(counts))
				x.start()
				lost := x.source.Intn(4)
				x.settle(func(l letter) bool {
					life, _, _ := readFrame(l.text)
					return lost == 1 || lost == 2 && life != 0 || lost == 3 && x.source.Intn(3) == 0
				})
				x.again()
				x.like()
				x.holds(&each[seed])
			})
		}
	})
	var all counts
	for _, c := range each {
		all = counts{all.signed + c.signed, all.shares + c.shares, all.blamed + c.blamed, all.lives + c.lives}
	}
	t.Logf("%+v", all)
	if all.signed < 250 || all.shares < 1000 || all.blamed < 3 || all.lives < 200 {
		t.Errorf("not much came about: %+v", all)
	}
}
