package node_test

import (
	"math"
	"testing"

	"wardmote/api"
	"wardmote/node"
	"wardmote/note"
	"wardmote/queue"
)

// noRequests are none: by the ID, by the message, by both.
func noRequests() []queue.Request {
	out := []queue.Request{{}, request(1, long), request(1<<40, long+long), request(7, long)}
	for _, id := range []int{0, -1, math.MinInt, 1<<40 + 1, 1 << 41, math.MaxInt} {
		out = append(out, request(id, "m"), request(id, ""), request(id, full), request(id, long))
	}
	return out
}

// 24.1: what is no request is rejected; nothing is written, and nobody is told.
func TestSubmitNone(t *testing.T) {
	for _, count := range []int{0, 1, 8} {
		x := rigOf(t, 4, 1, 2)
		for id := 1; id <= count; id++ {
			x.submits(request(id, "m"), queue.Accepted)
		}
		x.tick()
		x.told(3)
		records := x.records()
		for _, r := range noRequests() {
			x.submits(r, queue.Reject)
		}
		x.keeps(records...)
		x.hasTold(3)
	}
}

// 24.1: an Accept lasts, and all others are told, as soon as it is accepted; one that is known is answered as the queue does.
func TestSubmit(t *testing.T) {
	x := rigOf(t, 4, 1, 2)
	var records []string
	for i, r := range []queue.Request{request(7, "m"), request(1<<40, full), request(1, ""), request(2, "\x00\xff")} {
		x.submits(r, queue.Accepted)
		records = append(records, acceptOf(r.ID, r.M))
		for range 2 {
			x.keeps(records...)
			x.submits(r, queue.Accepted)
			x.submits(request(r.ID, "other"), queue.Reject)
			x.submits(request(r.ID, r.M+"x"), queue.Reject)
		}
		x.waits([]int{7, 1 << 40, 1, 2}[:i+1]...)
		for _, other := range []int{1, 3, 4} {
			if other == 1 {
				x.tick()
			}
			if got := x.told(other); len(got) != 1 || x.text(got[0]) != x.text(gossipOf(2, r.ID, r.M)) {
				t.Fatalf("node %d was told %v", other, show(got))
			}
		}
	}
	x.replies()
}

// 24.1: the ninth that waits, and one more behind one that is done. What was busy is not known.
func TestSubmitBusy(t *testing.T) {
	x := rigOf(t, 4, 1, 2)
	for id := 1; id <= 8; id++ {
		x.submits(request(id, "m"), queue.Accepted)
	}
	x.tick()
	x.told(1)
	records := x.records()
	x.submits(request(9, "m"), queue.Busy)
	x.submits(request(10, full), queue.Busy)
	x.submits(request(8, "m"), queue.Accepted)
	x.submits(request(8, "n"), queue.Reject)
	x.keeps(records...)
	x.hasTold(1)
	sig := x.sigOf("m")
	x.tell(3, finalOf(2, 4, "m", sig))
	x.keeps(append(records, finishOf(4, "m", sig))...)
	x.submits(request(9, "n"), queue.Accepted)
	x.hasTold(1, gossipOf(2, 9, "n"))
	x.submits(request(10, "m"), queue.Busy)
	x.waits(1, 2, 3, 5, 6, 7, 8, 9)
	if x.isDone(request(4, "m")) != sig {
		t.Error("another signature")
	}
}

// 24.1: a full file: Busy of what is new, and it is not known; all others are answered as ever. A smaller one may fit.
func TestSubmitFull(t *testing.T) {
	// An Accept of a message of one byte has 21 bytes in the file; a Finish has more.
	file := fileWith(t, 21)
	x := rigIn(t, 4, 1, 2, file)
	x.submits(request(1, "mm"), queue.Busy)
	x.submits(request(1, full), queue.Busy)
	x.waits()
	x.submits(request(1, "m"), queue.Accepted)
	x.keeps(append(x.records()[:len(x.records())-1], acceptOf(1, "m"))...)
	x.submits(request(2, ""), queue.Busy)
	x.submits(request(2, "m"), queue.Busy)
	x.submits(request(1, "m"), queue.Accepted)
	x.submits(request(1, "n"), queue.Reject)
	x.submits(request(0, "n"), queue.Reject)
	x.hasTold(1, gossipOf(2, 1, "m"))
	if !x.x.Up() {
		t.Error("it is down")
	}
	// A Finish can't be written: it waits, and its client is not replied to.
	x.tell(1, finalOf(2, 1, "m", x.sigOf("m")))
	x.tell(1, finalOf(2, 1, "m", x.sigOf("m")))
	x.replies()
	x.waits(1)
	x.ticks(200)
	x.waits(1)
	if len(x.x.Waiting()) != 1 || !x.x.Up() {
		t.Error("it does not wait")
	}
	// Nor can a Spent: no share is told.
	x.tell(1, askOf(0, 1, 9, 70000, "m"))
	x.tick()
	x.told(1)
	_, other := x.issue(1)
	x.tell(1, openOf(0, 1, 9, 70000*16+1, "m", listOf(x.nonce(1), other)))
	x.hasTold(1)
	if len(x.x.Emits()) != 0 {
		t.Error("a share was told")
	}
}

// 24.1: a full file, and a node alone: where there is no room for a Spent no share is told; where there is none for a Finish,
// nobody is replied to, and the request, which is final, is signed no more. What is done then is done when it is opened again.
func TestAloneFull(t *testing.T) {
	accept, spent, finish := 21, 18, 88
	for room := accept; room <= accept+spent+finish; room++ {
		x := rigIn(t, 1, 0, 1, fileWith(t, room))
		x.submits(request(1, "m"), queue.Accepted)
		told, replied := min((room-accept)/spent, 1), room == accept+spent+finish
		if replied {
			x.replies(request(1, "m"))
		} else {
			x.replies()
			x.waits(1)
		}
		x.ticks(100)
		if len(x.x.Emits()) != told || !x.x.Up() {
			t.Fatalf("room %d: %d shares were told", room, len(x.x.Emits()))
		}
		x.replies()
	}
}

// 24.1: a node that is down answers 0, whatever is submitted, and nothing is written.
func TestSubmitDown(t *testing.T) {
	x := rigOf(t, 4, 1, 2)
	x.submits(request(1, "m"), queue.Accepted)
	x.x.Fuse(1)
	x.submits(request(2, "m"), 0)
	for _, r := range append(noRequests(), request(1, "m"), request(1, "n"), request(2, "m"), request(3, "m")) {
		x.submits(r, 0)
	}
	x.keeps(acceptOf(1, "m"))
	x.waits(1)
	for other := range 6 {
		x.hears(other, x.text(beatOf(1)))
		x.hears(other, frame(1024, 1, x.text(beatOf(1))))
		x.hears(other, ack(1024, 1))
	}
	if out := x.x.Tick(); len(out) != 0 || x.x.Up() {
		t.Error("it ticks")
	}
}

// 24.5: a node alone replies to each request at once, and says so in its file; a table whose nodes do not fail, too, when it
// is its turn.
func TestAlone(t *testing.T) {
	for n := 1; n <= 3; n++ {
		x := rigOf(t, n, 0, 1)
		var want []string
		for i, r := range []queue.Request{request(1, "a"), request(1<<40, full), request(5, "")} {
			x.submits(r, queue.Accepted)
			x.replies(r)
			x.waits()
			sig := x.isDone(r)
			x.submits(request(r.ID, r.M+"x"), queue.Reject)
			want = append(want, acceptOf(r.ID, r.M), spentOf(2*i+1), finishOf(r.ID, r.M, sig))
			x.keeps(want...)
			if got := x.x.Emits(); len(got) != i+1 || got[i].Pair != x.nonce(2*i+1) {
				t.Fatalf("%d shares were told", len(got))
			}
			for other := 2; other <= n; other++ {
				if other == 2 {
					x.tick()
				}
				ask := askOf(0, 1, r.ID, 65536+i+1, r.M)
				open := []note.Note{gossipOf(1, r.ID, r.M), ask, finalOf(1, r.ID, r.M, sig)}
				got := x.told(other)
				if len(got) != 3 {
					t.Fatalf("node %d was told %v", other, show(got))
				}
				for j := range got {
					if x.text(got[j]) != x.text(open[j]) {
						t.Fatalf("node %d was told %v", other, show(got))
					}
				}
			}
		}
		if len(x.x.Blamed()) != 0 || x.x.View() != 0 {
			t.Error("blamed, or another view")
		}
		x.replies()
	}
}

// 24.5: what waits when a node alone is opened is replied with the first tick.
func TestAloneAgain(t *testing.T) {
	x := rigOf(t, 1, 0, 1)
	x.file = fileOf(acceptOf(3, "a"), acceptOf(2, "b"), acceptOf(9, full))
	x.open()
	x.waits(3, 2, 9)
	x.submits(request(2, "b"), queue.Accepted)
	x.replies()
	x.tick()
	x.replies(request(3, "a"), request(2, "b"), request(9, full))
	x.waits()
}

// 24.1: replies are told once; what is handed out is nobody's else.
func TestAnswersAreNew(t *testing.T) {
	x := rigOf(t, 1, 0, 1)
	for id := 1; id <= 3; id++ {
		x.submits(request(id, "m"), queue.Accepted)
	}
	first := x.x.Replies()
	if len(first) != 3 {
		t.Fatal(first)
	}
	x.replies()
	emits := x.x.Emits()
	for i := range emits[:cap(emits)] {
		emits[:cap(emits)][i] = node.Emit{}
	}
	for i := range first[:cap(first)] {
		first[:cap(first)][i] = node.Reply{}
	}
	x.submits(request(4, "m"), queue.Accepted)
	x.replies(request(4, "m"))
	got := x.x.Emits()
	if len(got) != 4 || got[0].Pair != x.nonce(1) || got[3].Pair != x.nonce(7) {
		t.Errorf("%v", got)
	}
	y := rigOf(t, 4, 1, 2)
	y.submits(request(1, "m"), queue.Accepted)
	y.submits(request(2, "n"), queue.Accepted)
	wait := y.x.Waiting()
	for i := range wait[:cap(wait)] {
		wait[:cap(wait)][i] = request(9, "x")
	}
	y.waits(1, 2)
	outs := y.x.Tick()
	for i := range outs[:cap(outs)] {
		outs[:cap(outs)][i] = node.Out{}
	}
	y.hasTold(1, gossipOf(2, 1, "m"), gossipOf(2, 2, "n"))
	if _, s := y.x.Submit(request(1, "m")); s != (api.Sig{}) {
		t.Error("a signature")
	}
}

// A nil node, and one that Open did not make, are down.
func TestNil(t *testing.T) {
	for _, x := range []*node.Node{nil, new(node.Node)} {
		for _, r := range append(noRequests(), request(1, "m")) {
			if a, s := x.Submit(r); a != 0 || s != (api.Sig{}) {
				t.Errorf("Submit: %d", a)
			}
		}
		for from := -1; from < 3; from++ {
			if len(x.Hear(from, frame(1024, 1, ""))) != 0 || len(x.Hear(from, ack(1024, 0))) != 0 {
				t.Error("it hears")
			}
		}
		x.Fuse(0)
		x.Fuse(1)
		if len(x.Tick()) != 0 || x.Up() || len(x.Replies()) != 0 || len(x.Emits()) != 0 || len(x.Blamed()) != 0 || x.View() != 0 ||
			x.Life() != 0 || len(x.Waiting()) != 0 {
			t.Error("it is up")
		}
	}
}
