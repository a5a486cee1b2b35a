package node_test

import (
	"math"
	"slices"
	"strings"
	"testing"

	"wardmote/api"
	"wardmote/note"
	"wardmote/queue"
	"wardmote/schnorr"
)

// 24.1: from itself, and from what is no node: nothing, whatever the text is.
func TestHearOfNoNode(t *testing.T) {
	x := rigOf(t, 4, 1, 2)
	x.submits(request(1, "m"), queue.Accepted)
	sig := x.sigOf("m")
	for _, from := range []int{2, 0, 5, -1, 6, 10, 11, math.MinInt, math.MaxInt, 1<<32 + 1} {
		for _, n := range []note.Note{beatOf(9), finalOf(2, 1, "m", sig), gossipOf(2, 5, "m"), askOf(1, 2, 1, 70000, "m")} {
			x.hears(from, frame(1024, 1, x.text(n)))
		}
		x.hears(from, ack(1024, 0))
		x.hears(from, "")
	}
	x.waits(1)
	x.hasTold(1, gossipOf(2, 1, "m"))
	if x.x.View() != 0 {
		t.Errorf("view %d", x.x.View())
	}
}

// 24.1: texts that are neither a frame nor an ack, and such of which the watch hears nothing: nothing.
func TestHearOfNoLetter(t *testing.T) {
	x := rigOf(t, 4, 1, 2)
	x.tell(1, beatOf(0))
	whole := frame(1024, 2, x.text(beatOf(7)))
	texts := []string{
		"", "x", x.text(beatOf(7)), packed(3, eight(1024), eight(2), ""), packed(1, eight(1024), eight(2)), frame(0, 2, ""),
		frame(1<<40+1, 1, ""), frame(2048, 0, ""), packed(1, eight(2048), eight(1), strings.Repeat("m", 7901)),
		packed(2, eight(1024)), packed(2, eight(1024), eight(0), ""), ack(0, 0), ack(1<<40+1, 0), whole + "x", strings.Repeat("x", 30000),
	}
	for end := range whole {
		texts = append(texts, whole[:end])
	}
	for _, text := range texts {
		x.hears(1, text)
	}
	x.takes(1, whole, ack(1024, 2))
}

// Frames that come, doubled, late and early, are acked; each text is read once, and in order.
func TestFrames(t *testing.T) {
	x := rigOf(t, 4, 1, 2)
	text := func(id int) string { return x.text(gossipOf(1, id, "m")) }
	ask := func(n int) string { return x.text(askOf(0, 1, n, 65536+n, "m")) }
	x.takes(1, frame(1024, 3, ask(3)), ack(1024, 0))
	x.takes(1, frame(1024, 1, ask(1)), ack(1024, 1))
	x.takes(1, frame(1024, 1, ask(1)), ack(1024, 1))
	x.takes(1, frame(1024, 3, ask(3)), ack(1024, 1))
	x.takes(1, frame(1024, 2, ask(2)), ack(1024, 2))
	x.takes(1, frame(1024, 1, ask(1)), ack(1024, 2))
	x.takes(1, frame(1024, 3, ask(3)), ack(1024, 3))
	// A text that is no note is taken, and nothing else.
	for i, none := range []string{"", "x", text(1) + "x", frame(1024, 9, text(1)), packed(38)} {
		x.takes(1, frame(1024, 4+i, none), ack(1024, 4+i))
	}
	x.takes(1, frame(1024, 9, ask(4)), ack(1024, 9))
	x.takes(3, frame(1, 1, x.text(askOf(2, 1, 5, 65541, "m"))), ack(1, 1))
	x.hasTold(1,
		offerOf(0, 1, 1, 65537, x.nonce(1)), offerOf(0, 1, 2, 65538, x.nonce(2)), offerOf(0, 1, 3, 65539, x.nonce(3)),
		offerOf(0, 1, 4, 65540, x.nonce(4)))
	if got := x.told(3); len(got) != 1 || x.text(got[0]) != x.text(offerOf(2, 1, 5, 65541, x.nonce(5))) {
		t.Errorf("%v", show(got))
	}
}

// Frames of a life that is over: nothing. Those of a greater one are taken anew; late acks are nothing, too.
func TestLivesThatAreOver(t *testing.T) {
	x := rigOf(t, 4, 1, 2)
	beat := x.text(beatOf(0))
	x.takes(1, frame(1500, 1, beat), ack(1500, 1))
	x.takes(1, frame(1500, 2, beat), ack(1500, 2))
	for _, life := range []int{1, 1024, 1499} {
		for number := range 4 {
			x.hears(1, frame(life, number, x.text(beatOf(9))))
		}
	}
	x.takes(1, frame(1501, 1, beat), ack(1501, 1))
	x.hears(1, frame(1500, 3, beat))
	x.takes(1, frame(1501, 2, beat), ack(1501, 2))
	for _, wrong := range []string{ack(1023, 0), ack(1025, 0), ack(1024, 1), ack(2048, 0)} {
		x.hears(1, wrong)
	}
}

// sends looks for the life and the number of the first frame that a mate is sent with a tick.
func (x *rig) sends(other, life, number int) {
	x.t.Helper()
	for _, out := range x.x.Tick() {
		if out.To != other {
			continue
		}
		if l, n, _ := readFrame(out.Text); l != life || n != number {
			x.t.Fatalf("node %d is sent %d of life %d, not %d of %d", other, n, l, number, life)
		}
		return
	}
	x.t.Fatalf("node %d is sent nothing", other)
}

// The sender to a node begins anew, without texts, when that node was opened again: the quotient by 1024 of its life is
// greater than ever, and greater than 1. The others' go on.
func TestBeginsAnew(t *testing.T) {
	x := rigOf(t, 4, 1, 2)
	beat := x.text(beatOf(0))
	x.submits(request(1, "m"), queue.Accepted)
	x.sends(1, 1024, 1)
	anew := 0
	for _, s := range []struct {
		life int
		anew bool
	}{
		{1, false}, {1023, false}, {1024, false}, {1025, false}, {2047, false}, {2048, true}, {2049, false}, {3071, false}, {3072, true},
		{10 * 1024, true}, {11*1024 - 1, false}, {11 * 1024, true}, {1 << 40, true}, {1 << 40, false},
	} {
		x.hears(1, ack(1024, 0))
		if len(x.x.Hear(1, frame(s.life, 9, beat))) != 1 {
			t.Fatalf("a frame of life %d is not acked", s.life)
		}
		if s.anew {
			anew++
		}
		x.sends(1, 1024+anew, 1)
		x.sends(3, 1024, 1)
		// What waited is lost, and what is told from then on comes.
		if anew == 1 && s.anew {
			for _, out := range x.x.Tick() {
				if _, _, text := readFrame(out.Text); out.To == 1 && text != beat {
					t.Errorf("node 1 is sent %q", text)
				}
			}
		}
	}
	x.again(0, 0)
	x.sends(1, 2048, 1)
}

// A note that comes with the first frame of another life is answered by the sender that began anew.
func TestAnsweredAnew(t *testing.T) {
	x := rigOf(t, 4, 1, 2)
	x.submits(request(1, "m"), queue.Accepted)
	x.tell(1, beatOf(0))
	x.meet(1, 2048)
	x.tell(1, askOf(0, 1, 9, 70000, "m"))
	x.hasTold(1, offerOf(0, 1, 9, 70000, x.nonce(1)))
	x.hasTold(3, gossipOf(2, 1, "m"))
}

// It begins anew no more than 1023 times.
func TestAnewNoMore(t *testing.T) {
	x := rigOf(t, 4, 1, 2)
	beat := x.text(beatOf(0))
	for i := 2; i <= 1100; i++ {
		x.takes(1, frame(1024*i, 1, beat), ack(1024*i, 1))
		if i%100 == 0 || 1020 < i && i < 1030 {
			x.sends(1, 1024+min(i-1, 1023), 1)
		}
	}
	// The texts of the last one are not lost.
	x.mates[1].r.Take(frame(1024+1023, 1, beat))
	x.submits(request(1, "m"), queue.Accepted)
	x.takes(1, frame(1024*1101, 1, beat), ack(1024*1101, 1))
	x.hasTold(1, gossipOf(2, 1, "m"))
}

// Acks let go what came; what is not acked is sent again with each tick, and Beat is told to those only for whom nothing
// waits.
func TestAcks(t *testing.T) {
	x := rigOf(t, 4, 1, 2)
	to := func() []string {
		var out []string
		for _, o := range x.x.Tick() {
			if o.To == 1 {
				out = append(out, o.Text)
			}
		}
		return out
	}
	gossip := func(id int) string { return x.text(gossipOf(2, id, "m")) }
	beat := frame(1024, 1, x.text(beatOf(0)))
	is := func(want ...string) {
		t.Helper()
		if got := to(); !slices.Equal(got, want) {
			t.Fatalf("node 1 is sent %q, not %q", got, want)
		}
	}
	is(beat)
	is(beat)
	x.submits(request(1, "m"), queue.Accepted)
	x.submits(request(2, "m"), queue.Accepted)
	is(beat, frame(1024, 2, gossip(1)), frame(1024, 3, gossip(2)))
	x.hears(1, ack(1024, 2))
	is(frame(1024, 3, gossip(2)))
	x.hears(1, ack(1024, 1))
	is(frame(1024, 3, gossip(2)))
	x.hears(3, ack(1024, 3))
	is(frame(1024, 3, gossip(2)))
	x.hears(1, ack(1024, 3))
	is(frame(1024, 4, x.text(beatOf(0))))
	x.hears(1, ack(1024, 4))
	is(frame(1024, 5, x.text(beatOf(0))))
}

// Letters are sent to all others, by their numbers, the first 16 that wait; where 64 wait, further texts are lost.
func TestManyWait(t *testing.T) {
	x := rigOf(t, 4, 1, 2)
	for i := 1; i <= 70; i++ {
		x.tell(1, askOf(0, 1, i, 65536+i, "m"))
	}
	var numbers []int
	for _, out := range x.x.Tick() {
		_, number, _ := readFrame(out.Text)
		numbers = append(numbers, 100*out.To+number)
	}
	var want []int
	for i := 1; i <= 16; i++ {
		want = append(want, 100+i)
	}
	if want = append(want, 301, 401); !slices.Equal(numbers, want) {
		t.Fatalf("%v, not %v", numbers, want)
	}
	x.ticks(8)
	got := x.told(1)
	if len(got) != 64 || got[63].ID != 64 || !x.x.Up() {
		t.Errorf("%d were told", len(got))
	}
	x.tell(1, askOf(0, 1, 99, 66666, "m"))
	x.hasTold(1, offerOf(0, 1, 99, 66666, x.nonce(71)))
}

// Gossip of its origin opens a request; of another one it is nothing. What is final is told so, each time.
func TestGossip(t *testing.T) {
	x := rigOf(t, 4, 1, 1)
	sig := x.sigOf("m")
	x.tell(3, gossipOf(2, 1, "m"))
	x.tell(3, gossipOf(1, 1, "m"))
	x.tell(3, gossipOf(10, 1, "m"))
	x.hasTold(3)
	x.tell(3, finalOf(2, 1, "m", sig))
	x.hasTold(2)
	x.hasTold(3)
	for range 2 {
		x.tell(2, gossipOf(2, 1, "m"))
		x.hasTold(2, finalOf(2, 1, "m", sig))
		x.hasTold(3)
	}
	// Another ID, another message, another origin: each is another request.
	x.tell(2, gossipOf(2, 2, "m"))
	x.hasTold(2, askOf(0, 2, 2, 65537, "m"))
	x.tell(2, gossipOf(2, 1, "n"))
	x.tell(3, gossipOf(3, 1, "m"))
	x.hasTold(2)
	if x.x.View() != 0 {
		t.Errorf("view %d", x.x.View())
	}
}

// A Final whose signature does not hold is nothing: of another message, of another key, changed; with R at infinity.
func TestFinalThatDoesNotHold(t *testing.T) {
	x := rigOf(t, 4, 1, 2)
	x.submits(request(1, "m"), queue.Accepted)
	right, other := x.sigOf("m"), x.sigOf("mm")
	x.tick()
	x.told(3)
	for _, s := range []api.Sig{
		other, {R: right.R, Z: api.Num{1}}, {R: other.R, Z: right.Z}, {R: api.Point{Inf: true}, Z: right.Z}, {R: api.Point{Inf: true}},
		{R: x.keys[0].Public, Z: right.Z},
	} {
		x.tell(3, finalOf(2, 1, "m", s))
		x.tell(3, finalOf(3, 5, "m", s))
	}
	x.tell(3, finalOf(2, 1, "n", right))
	x.waits(1)
	x.replies()
	x.keeps(acceptOf(1, "m"))
	x.tell(3, gossipOf(3, 5, "m"))
	x.hasTold(3)
	x.tell(1, finalOf(2, 1, "m", right))
	x.waits()
	x.replies(request(1, "m"))
}

// A Final of its own request, that waits: a Finish lasts, it is done, and its client is replied to, once.
func TestFinal(t *testing.T) {
	x := rigOf(t, 4, 1, 2)
	for id := 1; id <= 3; id++ {
		x.submits(request(id, "m"), queue.Accepted)
	}
	records := x.records()
	first := x.sigOf("m")
	second, _ := schnorr.Sign(api.Num{11}, api.Num{99}, "m")
	// Others' requests of the same ID, or its own with another message, are others.
	x.tell(3, finalOf(1, 2, "m", first))
	x.tell(3, finalOf(3, 2, "m", first))
	x.tell(3, finalOf(10, 2, "m", first))
	x.tell(3, finalOf(2, 2, "mm", x.sigOf("mm")))
	x.tell(3, finalOf(2, 9, "m", first))
	x.replies()
	x.keeps(records...)
	x.tell(3, finalOf(2, 2, "m", first))
	x.replies(request(2, "m"))
	x.waits(1, 3)
	records = append(records, finishOf(2, "m", first))
	x.keeps(records...)
	// A second one, with another signature that holds, changes nothing.
	x.tell(1, finalOf(2, 2, "m", first))
	x.tell(1, finalOf(2, 2, "m", second))
	x.replies()
	x.keeps(records...)
	if x.isDone(request(2, "m")) != first {
		t.Error("another signature")
	}
	x.tell(1, finalOf(2, 3, "m", second))
	x.replies(request(3, "m"))
	if x.isDone(request(3, "m")) != second {
		t.Error("another signature")
	}
	x.again(0, 0)
	if x.isDone(request(2, "m")) != first || x.isDone(request(3, "m")) != second {
		t.Error("another signature, when it is opened again")
	}
	x.waits(1)
	x.replies()
}

// A Final of its own that came ahead of its client: the request is one that waits, all the same.
func TestFinalAhead(t *testing.T) {
	x := rigOf(t, 4, 1, 1)
	x.tell(2, finalOf(1, 7, "m", x.sigOf("m")))
	x.submits(request(7, "m"), queue.Accepted)
	x.hasTold(3, gossipOf(1, 7, "m"), askOf(0, 1, 7, 65537, "m"))
	x.waits(7)
}

// FuzzHear is P1, and 24.4: whatever it hears, it goes on.
func FuzzHear(f *testing.F) {
	x := rigOf(f, 4, 1, 1)
	x.tell(2, gossipOf(2, 1, "m"))
	for i, n := range []note.Note{
		gossipOf(2, 1, "m"), askOf(1, 2, 1, 70000, "m"), offerOf(0, 2, 1, 65537, x.nonce(1)), beatOf(9), finalOf(2, 1, "m", x.sigOf("m")),
		shareOf(0, 2, 1, 65537*16+1, api.Num{5}, x.nonce(2)), openOf(1, 2, 1, 70000*16, "m", listOf(x.nonce(1))),
	} {
		f.Add(i%5, x.text(n), 1+i%3)
	}
	f.Add(2, ack(1024, 1), 0)
	f.Fuzz(func(t *testing.T, from int, text string, number int) {
		x := rigOf(t, 4, 1, 1)
		x.tell(2, gossipOf(2, 1, "m"))
		x.tell(3, offerOf(0, 2, 1, 65537, x.pairOf(3)))
		x.x.Hear(from, text)
		x.x.Hear(from, packed(1, eight(1024), eight(number), text))
		x.x.Tick()
		if !x.x.Up() || len(x.x.Replies()) != 0 {
			t.Fatal("it is down, or replied")
		}
	})
}
