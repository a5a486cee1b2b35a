package bench_test

import (
	"math"
	"reflect"
	"slices"
	"strings"
	"testing"

	"wardmote/api"
	"wardmote/bench"
	"wardmote/dkg"
	"wardmote/node"
	"wardmote/oracle"
	"wardmote/queue"
	"wardmote/schnorr"
)

// mostFail is by n the greatest f with 3 f < n.
var mostFail = [...]int{1: 0, 2: 0, 3: 0, 4: 1, 5: 1, 6: 1, 7: 2, 8: 2, 9: 2, 10: 3}

// far are numbers that are none of a node, a letter, a count.
var far = []int{
	-1, -2, -1 << 31, 1 - 1<<32, 1<<32 + 1, math.MinInt, math.MaxInt, 1 << 40,
}

// newBench is a bench.
func newBench(t *testing.T, n, f int, seed string, odd int) *bench.Bench {
	t.Helper()
	b, e := bench.New(n, f, seed, odd)
	if e != api.OK {
		t.Fatalf("New(%d, %d, %q, %d): %v", n, f, seed, odd, e)
	}
	return b
}

// submit is that a client submits a request.
func submit(i, id int, m string) api.Choice {
	return api.Choice{Kind: api.DoSubmit, Node: i, ID: id, M: m}
}

// tick is that a node ticks.
func tick(i int) api.Choice { return api.Choice{Kind: api.DoTick, Node: i} }

// down is that the power of a node goes.
func down(i, n, mask int) api.Choice { return api.Choice{Kind: api.DoDown, Node: i, N: n, Mask: mask} }

// start is that a node is opened again.
func start(i int) api.Choice { return api.Choice{Kind: api.DoStart, Node: i} }

// fuse is that the power of a node goes at a step.
func fuse(i, n int) api.Choice { return api.Choice{Kind: api.DoFuse, Node: i, N: n} }

// forge is that an odd node sends a text.
func forge(i, to int, m string) api.Choice {
	return api.Choice{Kind: api.DoForge, Node: i, N: to, M: m}
}

// rounds are some.
func rounds(n int) api.Choice { return api.Choice{Kind: api.DoRound, N: n} }

// answers looks for what a node's client is answered, and nothing else seen.
func (x *pair) answers(c api.Choice, want int) {
	x.t.Helper()
	l := x.step(c)
	r := queue.Request{ID: c.ID, M: c.M}
	if len(l) != 1 || l[0].Kind != oracle.Asked || l[0].Answer != want || l[0].R != r || l[0].L != nil {
		x.t.Fatalf("Step(%+v): %+v, not the answer %d", c, l, want)
	}
}

// opens looks for what waits in a node that is opened again.
func (x *pair) opens(i int, want ...queue.Request) {
	x.t.Helper()
	l := x.step(start(i))
	if len(l) != 1 || l[0].Kind != oracle.Opened || l[0].Answer != 0 || !slices.Equal(l[0].L, want) || !x.b.Up(i) {
		x.t.Fatalf("start of %d: %+v, not %+v", i, l, want)
	}
}

// nothing does choices of which none does anything, and nothing is seen.
func (x *pair) nothing(l ...api.Choice) {
	x.t.Helper()
	for _, c := range l {
		letters := slices.Clone(x.p.letters)
		if out := x.step(c); len(out) != 0 || !slices.Equal(x.p.letters, letters) {
			x.t.Fatalf("Step(%+v): %+v", c, out)
		}
	}
	x.like()
}

// 26.1: the example of the chapter; the reply comes after some rounds.
func TestExample(t *testing.T) {
	b := newBench(t, 4, 1, "", 0)
	l := b.Step(submit(1, 1, "a"))
	if len(l) != 1 || l[0].Kind != oracle.Asked || l[0].Answer != queue.Accepted || l[0].R != (queue.Request{ID: 1, M: "a"}) {
		t.Fatalf("%+v", l)
	}
	if l := b.Step(rounds(8)); len(l) != 0 {
		t.Errorf("of rounds none are told, not %+v", l)
	}
	l = b.Events(1)
	if len(l) != 2 || l[1].Kind != oracle.Replied || schnorr.Verify(b.Public(), "a", l[1].Sig) != api.OK {
		t.Fatalf("%+v", l)
	}
	if rule, at, e := oracle.Check(b.Public(), l); rule != 0 || at != 0 || e != api.OK {
		t.Errorf("%d, %d, %v", rule, at, e)
	}
}

// 26.1: what is no table, or no set of odd nodes, and a long seed.
func TestNewErrors(t *testing.T) {
	refuses := func(n, f int, seed string, odd int, want api.Errno) {
		t.Helper()
		if b, e := bench.New(n, f, seed, odd); b != nil || e != want {
			t.Errorf("New(%d, %d, %d bytes, %d): %v, not %v", n, f, len(seed), odd, e, want)
		}
	}
	long := strings.Repeat("s", 61)
	for _, c := range [][2]int{{0, 0}, {-1, 0}, {11, 0}, {11, 3}, {1, 1}, {3, 1}, {6, 2}, {9, 3}, {10, 4}, {4, -1}, {1, -1}} {
		refuses(c[0], c[1], "s", 0, api.ErrArg)
		refuses(c[0], c[1], long, -1, api.ErrArg)
	}
	for _, n := range far {
		refuses(n, 0, "", 0, api.ErrArg)
		refuses(4, n, "", 0, api.ErrArg)
	}
	for n := 1; n <= 10; n++ {
		for _, odd := range []int{-1, math.MinInt, 1 << n, 1<<n | 1, math.MaxInt, 1 << 32, 1 << 62, 1<<(mostFail[n]+1) - 1} {
			refuses(n, mostFail[n], "s", odd, api.ErrArg)
			refuses(n, mostFail[n], long, odd, api.ErrArg)
		}
		refuses(n, 0, "", 1, api.ErrArg)
		refuses(n, mostFail[n], long, 0, api.ErrLong)
		refuses(n, mostFail[n], long+long, 0, api.ErrLong)
	}
	for _, odd := range []int{0, 1, 1 << 9, 0b111, 0b1110000000, 0b1000100001} {
		newBench(t, 10, 3, long[1:], odd)
	}
	newBench(t, 4, 0, "s", 0)
}

// 26.1: each node's key is the one that all dealers' polynomials make together.
func TestKeys(t *testing.T) {
	for n := 1; n <= 10; n++ {
		for _, f := range []int{0, mostFail[n]} {
			for _, seed := range []string{"", "s", "\x00\xff", strings.Repeat("s", 60)} {
				b := newBench(t, n, f, seed, 0)
				keys := keysOf(n, f, seed)
				for i := 1; i <= n; i++ {
					if got := b.Key(i); !reflect.DeepEqual(got, keys[i]) {
						t.Fatalf("n %d, f %d: the key of %d: %+v, not %+v", n, f, i, got, keys[i])
					}
					if !b.Up(i) || b.View(i) != 0 || b.Events(i) != nil || b.Emits(i) != nil || b.Blamed(i) != nil {
						t.Fatalf("n %d, f %d: node %d is not new", n, f, i)
					}
				}
				if b.Public() != keys[1].Public || b.Letters() != 0 {
					t.Fatalf("n %d, f %d: %v, %d letters", n, f, b.Public(), b.Letters())
				}
			}
		}
	}
	pairOf(t, 4, 1, "s", 2)
}

// empty looks whether a bench has nothing, and does nothing.
func empty(t *testing.T, b *bench.Bench) {
	t.Helper()
	for range 2 {
		for kind := range 13 {
			for _, n := range []int{0, 1, 2, 5, -1, 51} {
				if l := b.Step(api.Choice{Kind: kind, Node: n, N: n, ID: 1, Mask: 1, M: "m"}); l != nil {
					t.Errorf("Step of %d: %+v", kind, l)
				}
			}
		}
		for _, i := range append([]int{0, 1, 2, 10}, far...) {
			if b.Events(i) != nil || b.Up(i) || b.View(i) != 0 || b.Waiting(i) != nil || b.Emits(i) != nil || b.Blamed(i) != nil {
				t.Errorf("node %d has something", i)
			}
			if k := b.Key(i); !reflect.DeepEqual(k, dkg.Key{}) {
				t.Errorf("node %d has a key", i)
			}
		}
		if b.Public() != (api.Point{}) || b.Letters() != 0 {
			t.Error("it has something")
		}
	}
}

// 26.1: a nil bench does nothing; so does one that New did not make.
func TestNil(t *testing.T) {
	empty(t, nil)
	empty(t, new(bench.Bench))
}

// 26.1: what is no choice does nothing.
func TestNoChoice(t *testing.T) {
	x := pairOf(t, 4, 1, "s", 8)
	x.step(submit(1, 1, "a"))
	x.step(tick(1))
	x.step(down(3, 0, 0))
	for kind := range 11 {
		for _, i := range append([]int{0, 5, 6, 9}, far...) {
			switch kind {
			case api.DoDeliver, api.DoLose, api.DoAgain:
				x.nothing(api.Choice{Kind: kind, Node: 1, N: len(x.p.letters) + max(i, 0)})
				x.nothing(api.Choice{Kind: kind, Node: 1, N: min(i, -1)})
			case api.DoRound:
				x.nothing(rounds(min(i, 0)), rounds(max(51, i)))
			default:
				x.nothing(api.Choice{Kind: kind, Node: i, N: 1, ID: 2, M: "m"})
			}
		}
	}
	for _, kind := range append([]int{0, 11, 12}, far...) {
		for i := range 6 {
			x.nothing(api.Choice{Kind: kind, Node: i, N: 1, ID: 2, M: "m"})
		}
	}
	x.nothing(submit(3, 2, "b"), tick(3), fuse(3, 1), down(3, 7, 7), start(1), start(4))
	if !x.b.Up(1) || x.b.Up(3) {
		t.Error("who is up")
	}
}

// 26.1: Submit: all answers, each an event; one that is down sees nothing.
func TestSubmit(t *testing.T) {
	x := pairOf(t, 4, 1, "s", 8)
	for _, i := range []int{2, 4} {
		x.answers(submit(i, 1, "a"), queue.Accepted)
		x.answers(submit(i, 1, "a"), queue.Accepted)
		x.answers(submit(i, 1, "b"), queue.Reject)
		long := strings.Repeat("m", 4097)
		x.answers(submit(i, 2, long), queue.Reject)
		x.answers(submit(i, 2, long[1:]), queue.Accepted)
		for _, id := range []int{0, -1, api.MaxBig + 1, 1 - 1<<32, math.MinInt, math.MaxInt} {
			x.answers(submit(i, id, "a"), queue.Reject)
		}
		for id := 3; id <= 8; id++ {
			x.answers(submit(i, id, ""), queue.Accepted)
		}
		x.answers(submit(i, 9, ""), queue.Busy)
		if l := x.b.Waiting(i); len(l) != 8 || l[1].M != long[1:] {
			t.Errorf("%d wait", len(l))
		}
	}
	x.step(rounds(50))
	x.step(rounds(50))
	for _, i := range []int{2, 4} {
		l := x.step(submit(i, 1, "a"))
		if len(l) != 1 || l[0].Answer != queue.Done || schnorr.Verify(x.b.Public(), "a", l[0].Sig) != api.OK {
			t.Errorf("%+v", l)
		}
		x.answers(submit(i, 1, "b"), queue.Reject)
	}
	x.like()
	x.step(down(2, 0, 0))
	x.nothing(submit(2, 1, "a"), submit(2, 99, "a"))
}

// 26.1: a reply is an event behind any choice: of a node alone behind its request, of others behind a tick or a letter.
func TestReplies(t *testing.T) {
	x := pairOf(t, 1, 0, "s", 0)
	l := x.step(submit(1, 1, "a"))
	r := queue.Request{ID: 1, M: "a"}
	if len(l) != 2 || l[0].Kind != oracle.Asked || l[1].Kind != oracle.Replied || l[1].R != r || l[1].Answer != 0 || l[1].L != nil {
		t.Fatalf("%+v", l)
	}
	if schnorr.Verify(x.b.Public(), "a", l[1].Sig) != api.OK {
		t.Error("its signature does not hold")
	}
	// One that waits since its node was opened is replied to by the next tick.
	x.step(fuse(1, 3))
	x.answers(submit(1, 2, "b"), 0)
	x.opens(1, queue.Request{ID: 2, M: "b"})
	if l := x.step(tick(1)); len(l) != 1 || l[0].Kind != oracle.Replied || l[0].R.M != "b" {
		t.Errorf("%+v", l)
	}
	// Two replies of one choice, and one ahead of the power's going.
	x.step(fuse(1, 3))
	x.answers(submit(1, 3, "c"), 0)
	x.opens(1, queue.Request{ID: 3, M: "c"})
	x.step(fuse(1, 9))
	l = x.step(submit(1, 4, "d"))
	if len(l) != 2 || l[0].Answer != 0 || l[1].Kind != oracle.Replied || l[1].R.M != "c" || x.b.Up(1) {
		t.Errorf("%+v", l)
	}
	x.opens(1, queue.Request{ID: 4, M: "d"})
	x.answers(submit(1, 4, "d"), queue.Accepted)
	l = x.step(submit(1, 5, "e"))
	if len(l) != 3 || l[0].Answer != queue.Accepted || l[1].R.M != "d" || l[2].R.M != "e" {
		t.Errorf("%+v", l)
	}
	x.like()
	// By a letter.
	x = pairOf(t, 4, 1, "s", 0)
	x.step(submit(2, 1, "a"))
	for count := 0; len(x.b.Events(2)) < 2; count++ {
		if count == 20 {
			t.Fatal("no reply")
		}
		for i := 1; i <= 4; i++ {
			if l := x.step(tick(i)); len(l) != 0 {
				t.Errorf("%+v", l)
			}
		}
		for len(x.p.letters) > 0 {
			if l := x.step(api.Choice{Kind: api.DoDeliver}); len(l) > 1 || len(l) == 1 && l[0].Kind != oracle.Replied {
				t.Errorf("%+v", l)
			}
		}
	}
	x.like()
}

// 26.1: letters wait in their order; the N'th is delivered, lost, or there once more, behind all others.
func TestLetters(t *testing.T) {
	x := pairOf(t, 4, 1, "s", 0b1000)
	for i := 1; i <= 4; i++ {
		x.step(tick(i))
	}
	if x.b.Letters() != 12 {
		t.Fatalf("%d letters", x.b.Letters())
	}
	for _, n := range []int{12, 13, 11, 0, 5, 12} {
		x.step(api.Choice{Kind: api.DoAgain, N: n})
	}
	if x.b.Letters() != 16 {
		t.Fatalf("%d letters", x.b.Letters())
	}
	for _, n := range []int{16, 15, 0, 7, 13, 12} {
		x.step(api.Choice{Kind: api.DoLose, N: n})
	}
	if x.b.Letters() != 12 {
		t.Fatalf("%d letters", x.b.Letters())
	}
	// A frame is taken, and its ack sent; an ack ends it.
	x.step(api.Choice{Kind: api.DoDeliver, N: 3})
	if x.b.Letters() != 12 {
		t.Fatalf("%d letters", x.b.Letters())
	}
	x.step(api.Choice{Kind: api.DoDeliver, N: 11})
	if x.b.Letters() != 11 {
		t.Fatalf("%d letters", x.b.Letters())
	}
	for n := 20; len(x.p.letters) > 0; n += 7 {
		x.step(api.Choice{Kind: api.DoDeliver, N: n % len(x.p.letters)})
	}
	x.like()
	// One that comes to a node that is down is gone.
	x.step(tick(1))
	x.step(down(2, 0, 0))
	for x.p.letters[0].to != 2 {
		x.step(api.Choice{Kind: api.DoLose})
	}
	had := x.b.Letters()
	x.step(api.Choice{Kind: api.DoDeliver})
	if x.b.Letters() != had-1 {
		t.Error("a letter to a node that is down")
	}
	x.like()
}

// 26.1: at most 2048 letters wait; what is sent beyond is lost, whoever sends it.
func TestMaxLetters(t *testing.T) {
	if bench.MaxLetters != 2048 {
		t.Error(bench.MaxLetters)
	}
	x := pairOf(t, 4, 1, "s", 0b1000)
	for range 2046 {
		x.step(forge(4, 1, "x"))
	}
	x.step(tick(1)) // three letters, of which two have room
	if x.b.Letters() != 2048 || x.p.letters[2047].to != 3 {
		t.Fatalf("%d letters", x.b.Letters())
	}
	x.nothing(forge(4, 1, "y"), api.Choice{Kind: api.DoAgain, N: 3}, tick(2))
	x.step(api.Choice{Kind: api.DoLose, N: 4})
	x.step(api.Choice{Kind: api.DoAgain, N: 2046})
	x.step(forge(4, 1, "y"))
	if x.b.Letters() != 2048 || x.p.letters[2047].text == "y" {
		t.Errorf("%d letters", x.b.Letters())
	}
	// A letter that is delivered makes room for its ack.
	x.step(api.Choice{Kind: api.DoDeliver, N: 2046})
	if x.b.Letters() != 2048 {
		t.Errorf("%d letters", x.b.Letters())
	}
	x.step(rounds(1))
	x.like()
	if x.b.Letters() != 0 {
		t.Errorf("%d letters", x.b.Letters())
	}
}

// 26.1: odd nodes alone forge, letters to others, whether they are up or not.
func TestForge(t *testing.T) {
	x := pairOf(t, 7, 2, "s", 0b1000010)
	for from := -1; from <= 9; from++ {
		for to := -1; to <= 9; to++ {
			had := x.b.Letters()
			x.step(forge(from, to, "m"))
			want := had
			if (from == 2 || from == 7) && to >= 1 && to <= 7 && to != from {
				want++
			}
			if x.b.Letters() != want {
				t.Errorf("from %d to %d", from, to)
			}
		}
	}
	for _, to := range far {
		x.nothing(forge(2, to, "m"), forge(to, 2, "m"))
	}
	x.step(down(7, 0, 0))
	x.step(forge(7, 1, ""))
	x.step(forge(7, 2, strings.Repeat("m", 1<<16)))
	if x.b.Letters() != 14 {
		t.Errorf("%d letters", x.b.Letters())
	}
	x.step(rounds(2))
	x.like()
	// What is right is taken: a frame of the first life is acknowledged.
	for len(x.p.letters) > 0 {
		x.step(api.Choice{Kind: api.DoLose})
	}
	x.step(forge(7, 3, frame(9000, 1, "t")))
	x.step(api.Choice{Kind: api.DoDeliver})
	if x.b.Letters() != 1 || x.p.letters[0].to != 7 {
		t.Error("no ack")
	}
	x.like()
}

// 26.1: the power goes between a write and its sync: the file keeps what DoDown says, all of it for an N that is none; of a
// node that is started nothing of it. Behind a Mask that is none the file crashed, too.
func TestDown(t *testing.T) {
	r := queue.Request{ID: 1, M: "a"}
	size := unsynced(t, "a")
	for _, c := range []struct {
		n, mask int
		keeps   bool
	}{
		{0, 0, false}, {0, 1, false}, {1, 255, false}, {size - 1, 0, false}, {size - 1, 255, false}, {size, 0, true}, {size, 255, true},
		{size + 1, 0, true}, {size + 1, 255, true}, {-1, 0, true}, {-1, 9, true}, {math.MaxInt, 0, true}, {math.MinInt, 1, true},
		{0, 256, false}, {0, -1, false}, {size - 1, 257, false}, {size - 1, math.MinInt, false}, {size, -1, true}, {-1, 256, true},
		{1 << 32, 0, true}, {0, 1 << 32, false},
	} {
		for _, twice := range []bool{true, false} {
			x := pairOf(t, 4, 1, "s", 0)
			x.step(fuse(2, 2))
			x.answers(submit(2, 1, "a"), 0)
			if x.b.Up(2) || x.b.Waiting(2) != nil {
				t.Fatal("it is up")
			}
			x.step(down(2, c.n, c.mask))
			if twice {
				// What was told first counts: the file crashed then.
				x.step(down(2, size-c.n, 0))
				x.step(down(2, 0, 0))
			}
			if c.keeps {
				x.opens(2, r)
			} else {
				x.opens(2)
			}
			x.like()
		}
	}
	x := pairOf(t, 4, 1, "s", 0)
	x.step(fuse(2, 2))
	x.answers(submit(2, 1, "a"), 0)
	x.opens(2)
	x.answers(submit(2, 1, "a"), queue.Accepted)
	x.step(down(2, 0, 0))
	x.nothing(submit(2, 1, "a"), tick(2), down(2, 0, 0))
	x.opens(2, r)
	x.nothing(start(2))
}

// unsynced is how many bytes an Accept has, of the ID 1.
func unsynced(t *testing.T, m string) int {
	t.Helper()
	p := plainOf(t, 4, 1, "s", 0)
	p.step(fuse(2, 2))
	p.step(submit(2, 1, m))
	all, synced := p.files[2].Len()
	return all - synced
}

// 26.1: a node that is started has a further life, without a view; what it told and whom it found bad is known of all lives.
func TestLives(t *testing.T) {
	x := pairOf(t, 4, 1, "s", 0b1000)
	var want []node.Emit
	for life := range 4 {
		x.answers(submit(1, life+1, "a"), queue.Accepted)
		x.step(rounds(8))
		if l := x.b.Emits(1); len(l) <= len(want) || !slices.Equal(l[:len(want)], want) {
			t.Fatalf("life %d: %d shares, not more than %d", life, len(l), len(want))
		}
		want = x.b.Emits(1)
		x.step(down(1, 0, 0))
		if !slices.Equal(x.b.Emits(1), want) {
			t.Error("a node that is down has told nothing")
		}
		x.step(down(1, 0, 0))
		x.step(rounds(7))
		x.opens(1)
		if !slices.Equal(x.b.Emits(1), want) || x.b.View(1) != 0 {
			t.Error("a node that was started")
		}
		x.like()
	}
}

// 26.1: DoFuse is Fuse of a node that is up, and of no step below 1.
func TestFuse(t *testing.T) {
	x := pairOf(t, 4, 1, "s", 0)
	for _, n := range []int{0, -1, math.MinInt} {
		x.nothing(fuse(1, n))
	}
	x.answers(submit(1, 1, "a"), queue.Accepted)
	x.step(fuse(1, 4))
	x.answers(submit(1, 2, "a"), queue.Accepted)
	x.step(tick(2))
	x.answers(submit(1, 3, "a"), 0)
	if x.b.Up(1) || x.b.View(1) != 0 || x.b.Waiting(1) != nil {
		t.Error("it is up")
	}
	// Of a node that is down there is none.
	x.nothing(fuse(1, 1))
	x.opens(1, queue.Request{ID: 1, M: "a"}, queue.Request{ID: 2, M: "a"})
	x.answers(submit(1, 3, "a"), queue.Accepted)
	x.like()
}

// 26.1: a view of a node that is down is told as 0.
func TestView(t *testing.T) {
	x := pairOf(t, 4, 1, "s", 0)
	x.step(down(1, 0, 0))
	x.step(submit(3, 1, "a"))
	x.step(rounds(20))
	if x.b.View(3) == 0 {
		t.Fatal("no further view")
	}
	x.step(fuse(3, 1))
	x.answers(submit(3, 2, "a"), 0)
	if x.b.View(3) != 0 {
		t.Error(x.b.View(3))
	}
	x.like()
}

// 26.1: so many rounds as are told: in each all tick, then letters come until none waits.
func TestRounds(t *testing.T) {
	x := pairOf(t, 4, 1, "s", 0b1000)
	x.step(submit(1, 1, "a"))
	for _, n := range []int{1, 2, 3, 1, 50, 49} {
		x.step(tick(3))
		x.step(forge(4, 1, "x"))
		if l := x.step(rounds(n)); l != nil {
			t.Errorf("%+v", l)
		}
		x.like()
		if x.b.Letters() != 0 {
			t.Error("letters wait")
		}
	}
	if l := x.b.Events(1); len(l) != 2 {
		t.Errorf("%+v", l)
	}
}

// 26.1: a node in whose file no further Life can be written is not opened any more.
func TestFull(t *testing.T) {
	b := newBench(t, 1, 0, "s", 0)
	// Accepted requests, each as long as there is room for.
	id := 0
	for size := 4096; size >= 1; size /= 2 {
		for answer := queue.Accepted; answer == queue.Accepted; id++ {
			if id == 500 {
				t.Fatal("there is room for ever")
			}
			answer = b.Step(submit(1, id+1, strings.Repeat("m", size-1)))[0].Answer
		}
	}
	for count := 0; b.Up(1); count++ {
		if count == 20 {
			t.Fatal("there is room for ever")
		}
		b.Step(down(1, 0, 0))
		b.Step(start(1))
	}
	had := len(b.Events(1))
	for range 2 {
		for _, c := range []api.Choice{start(1), down(1, 0, 0), submit(1, 1, "m"), tick(1), fuse(1, 1), rounds(2)} {
			if l := b.Step(c); l != nil || b.Up(1) {
				t.Errorf("Step(%+v): %+v", c, l)
			}
		}
	}
	if len(b.Events(1)) != had || len(b.Emits(1)) == 0 {
		t.Error("its events")
	}
}
