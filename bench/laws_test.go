package bench_test

import (
	"reflect"
	"slices"
	"strconv"
	"strings"
	"testing"
	"unsafe"

	"wardmote/api"
	"wardmote/bench"
	"wardmote/oracle"
	"wardmote/queue"
)

// 26.7, R6: the same choices do the same, whatever becomes of another bench meanwhile.
func TestSameChoices(t *testing.T) {
	for seed := range int64(3) {
		x := playerOf(t, seed, 4+int(seed))
		other := newBench(t, x.p.n, x.p.f, x.p.seed, x.p.odd)
		var script []api.Choice
		x.spy = func(c api.Choice) { script = append(script, c) }
		x.play(60)
		x.start()
		for range 3 {
			b := newBench(t, x.p.n, x.p.f, x.p.seed, x.p.odd)
			for i, c := range script {
				b.Step(c)
				other.Step(script[len(script)-1-i])
			}
			(&pair{t: t, b: b, p: x.p}).like()
		}
	}
}

// 26.6: within 400 rounds all is replied: eight requests of each node, the most odd nodes being down, from the first view on.
func TestAllRooms(t *testing.T) {
	for _, n := range []int{1, 2, 4, 7} {
		f := mostFail[n]
		b := newBench(t, n, f, "s", 1<<f-1)
		for i := 1; i <= n; i++ {
			if i <= f {
				b.Step(down(i, 0, 0))
			}
			for id := range 9 {
				b.Step(submit(i, id+1, "m"+strconv.Itoa(i)))
			}
		}
		for range 8 {
			b.Step(rounds(50))
		}
		for i := f + 1; i <= n; i++ {
			accepted, replies := 0, 0
			for _, e := range b.Events(i) {
				switch {
				case e.Kind == oracle.Replied:
					replies++
				case e.Answer == queue.Accepted:
					accepted++
				}
			}
			if accepted < 8 || accepted != replies || len(b.Waiting(i)) != 0 {
				t.Errorf("n %d: of %d, that %d accepted, %d are replied", n, accepted, i, replies)
			}
		}
	}
}

// 26.3 has one gap: where the power goes twice while a node is asked for one ID, with two messages, what is unclear is known
// with the first one (chapter 25, rule 3), though the file may keep the second one. By rule 5 no node may have it then.
func TestTwoMessages(t *testing.T) {
	x := pairOf(t, 4, 1, "s", 0)
	x.step(fuse(1, 1))
	x.answers(submit(1, 1, "a"), 0)
	x.opens(1)
	x.step(fuse(1, 2))
	x.answers(submit(1, 1, "b"), 0)
	x.step(down(1, -1, 0))
	x.opens(1, queue.Request{ID: 1, M: "b"})
	if rule, at, e := oracle.Check(x.b.Public(), x.b.Events(1)); rule != 5 || at != 3 || e != api.OK {
		t.Errorf("%d, %d, %v", rule, at, e)
	}
}

// 26.3 has another gap: a node in whose file there is no room for a request is busy (chapter 24), though fewer than Room wait
// (chapter 25, rule 2).
func TestBusyFile(t *testing.T) {
	b := newBench(t, 1, 0, "s", 0)
	m := strings.Repeat("m", api.MaxText)
	id := 1
	for ; b.Step(submit(1, id, m))[0].Answer == queue.Accepted; id++ {
		if id == 200 {
			t.Fatal("there is room for ever")
		}
	}
	l := b.Events(1)
	if e := l[len(l)-1]; e.Answer != queue.Busy || len(b.Waiting(1)) > 1 {
		t.Fatalf("the answer %d, %d wait", e.Answer, len(b.Waiting(1)))
	}
	if rule, at, e := oracle.Check(b.Public(), l); rule != 2 || at != len(l)-1 || e != api.OK {
		t.Errorf("%d, %d, %v", rule, at, e)
	}
}

// spoil changes all elements of a list, its spare room too.
func spoil[T any](l []T, with T) {
	l = l[:cap(l)]
	for i := range l {
		l[i] = with
	}
}

// spoilEvents changes all that events have.
func spoilEvents(l []oracle.Event) {
	for _, e := range l {
		spoil(e.L, queue.Request{ID: 99, M: "spoiled"})
	}
	spoil(l, oracle.Event{Kind: 77})
}

// R3: all that is answered is new memory.
func TestNewMemory(t *testing.T) {
	x := pairOf(t, 4, 1, "s", 8)
	spoiled := func(c api.Choice) {
		x.t.Helper()
		spoilEvents(x.step(c))
		for i := 1; i <= 4; i++ {
			spoilEvents(x.b.Events(i))
			spoil(x.b.Waiting(i), queue.Request{ID: 99})
			spoil(x.b.Emits(i), x.p.emits(4)[0])
			spoil(x.b.Blamed(i), 99)
			k := x.b.Key(i)
			spoil(k.Group, api.Point{Inf: true})
			spoil(k.Dealers, 99)
			if got := x.b.Key(i); !reflect.DeepEqual(got, x.p.keys[i]) {
				x.t.Fatalf("the key of %d: %+v", i, got)
			}
		}
		x.like()
	}
	// Two sign alone, until node 4 tells a wrong share.
	x.step(down(2, 0, 0))
	x.step(down(3, 0, 0))
	for count := 0; len(x.b.Blamed(1)) == 0; count++ {
		if count == 20 {
			t.Fatal("nobody is bad")
		}
		x.step(submit(1, count+1, "a"))
		(&player{pair: x, liar: &liar{source: newSource(int64(count)), x: x}}).round()
	}
	x.step(start(2))
	x.step(start(3))
	x.step(submit(4, 1, "a"))
	for count := 0; len(x.b.Emits(4)) == 0; count++ {
		if count == 100 {
			t.Fatal("node 4 tells no share")
		}
		x.step(submit(4, count+2, "a"))
		x.step(down(1+count%3, 0, 0))
		x.step(rounds(10))
		x.step(start(1 + count%3))
	}
	spoiled(submit(2, 1, "b"))
	spoiled(submit(2, 2, "c"))
	spoiled(down(2, 0, 0))
	spoiled(start(2))
	spoiled(rounds(9))
	spoiled(tick(2))
	spoiled(down(4, 0, 0))
	spoiled(start(4))
}

// R3: texts that are handed in are not kept, and no two answers share one.
func TestNewTexts(t *testing.T) {
	b := newBench(t, 4, 1, "s", 8)
	m := strings.Repeat("m", 100)[50:]
	var seen []uintptr
	sees := func(text string) {
		t.Helper()
		at := uintptr(unsafe.Pointer(unsafe.StringData(text)))
		if text != m || slices.Contains(seen, at) {
			t.Errorf("%q shares memory", text)
		}
		seen = append(seen, at)
	}
	sees(m)
	all := [][]oracle.Event{b.Step(submit(1, 1, m)), b.Events(1), b.Events(1)}
	b.Step(down(1, 0, 0))
	all = append(all, b.Step(start(1)))
	b.Step(rounds(12))
	all = append(all, b.Events(1), b.Events(1))
	for _, l := range all {
		for _, e := range l {
			for _, r := range e.L {
				sees(r.M)
			}
			if e.Kind != oracle.Opened {
				sees(e.R.M)
			}
		}
	}
	if len(seen) < 11 {
		t.Errorf("%d texts", len(seen))
	}
}

// R3: what is handed in is not kept: what becomes of its memory later is nobody's concern.
func TestTextsAreNotKept(t *testing.T) {
	x := pairOf(t, 4, 1, "s", 8)
	memory := []byte("a message")
	l := x.b.Step(submit(1, 1, unsafe.String(&memory[0], len(memory))))
	clear(memory)
	x.p.step(submit(1, 1, "a message"))
	x.like()
	if len(l) != 1 || l[0].R.M != "a message" || x.b.Waiting(1)[0].M != "a message" {
		t.Errorf("%+v", l)
	}
	memory = []byte(frame(9000, 1, "a text"))
	x.b.Step(forge(4, 1, unsafe.String(&memory[0], len(memory))))
	clear(memory)
	x.p.step(forge(4, 1, frame(9000, 1, "a text")))
	// An ack is sent for it.
	if x.step(api.Choice{Kind: api.DoDeliver}); x.b.Letters() != 1 {
		t.Errorf("%d letters", x.b.Letters())
	}
}

// P1: whatever a script chooses, each choice ends, and odd nodes may send any bytes.
func FuzzChoices(f *testing.F) {
	f.Add([]byte{1, 1, 1, 10, 0, 3, 9, 2, 1, 2, 2, 0, 3, 0, 0, 6, 1, 9, 7, 1, 0, 8, 1, 2})
	f.Fuzz(func(t *testing.T, b []byte) {
		x, _ := bench.New(4, 1, "s", 2)
		for ; len(b) >= 3; b = b[3:] {
			c := api.Choice{Kind: int(b[0]), Node: int(b[1]) - 1, N: int(b[2]) - 1, ID: int(b[2]), Mask: int(b[1]), M: string(b)}
			x.Step(c)
		}
		for i := 1; i <= 4; i += 2 {
			if rule, _, e := oracle.Check(x.Public(), x.Events(i)); rule != 0 && rule != 5 && e == api.OK {
				t.Errorf("node %d breaks rule %d", i, rule)
			}
		}
	})
}
