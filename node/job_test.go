package node_test

import (
	"slices"
	"testing"

	"wardmote/api"
	"wardmote/bind"
	"wardmote/gather"
	"wardmote/node"
	"wardmote/note"
	"wardmote/queue"
	"wardmote/schnorr"
)

// offer has a mate offer its next nonce's pair for a job: its number, and the pair.
func (x *rig) offer(from, view, number int) (int, bind.Pair) {
	x.t.Helper()
	n, pair := x.issue(from)
	x.tell(from, offerOf(view, 1, 1, number, pair))
	return n, pair
}

// opened looks for the Open, alone, that a mate is told: a session of a job's number, of which the pairs are these.
func (x *rig) opened(other, view, origin, id, session int, m string, l []bind.Pair) {
	x.t.Helper()
	x.hasTold(other, openOf(view, origin, id, session, m, l))
}

// share has a mate tell its share in a session, of that nonce, and its next pair, whose nonce's number is told.
func (x *rig) share(from, nonce, session int, m string, l []bind.Pair) (int, bind.Pair) {
	x.t.Helper()
	z, e := x.mates[from].hand.Sign(nonce, m, l)
	if e != api.OK {
		x.t.Fatal(e)
	}
	n, next := x.issue(from)
	x.tell(from, shareOf(0, 1, 1, session, z, next))
	return n, next
}

// finish has the job of a request be done, with one mate's help, of a table of one that fails: the signature that all others
// are told.
func (x *rig) finish(helper, view, origin, id, number int, m string, own bind.Pair) api.Sig {
	x.t.Helper()
	n, pair := x.offer(helper, view, number)
	l := listOf(own, pair)
	x.opened(helper, view, origin, id, number*16+1, m, l)
	x.share(helper, n, number*16+1, m, l)
	x.tick()
	got := x.told(helper)
	if len(got) == 0 || got[0].Kind != note.Final {
		x.t.Fatalf("node %d was told %v", helper, show(got))
	}
	sig := got[0].Sig
	if schnorr.Verify(x.keys[0].Public, m, sig) != api.OK || x.text(got[0]) != x.text(finalOf(origin, id, m, sig)) {
		x.t.Fatalf("node %d was told %v", helper, show(got))
	}
	// What follows is the next job's.
	x.mates[helper].heard = got[1:]
	return sig
}

// The coordinator brings a request of its own to its signature.
func TestJob(t *testing.T) {
	x := rigOf(t, 4, 1, 1)
	x.submits(request(7, full), queue.Accepted)
	x.tick()
	for other := 2; other <= 4; other++ {
		got := x.told(other)
		if len(got) != 2 || x.text(got[0]) != x.text(gossipOf(1, 7, full)) || x.text(got[1]) != x.text(askOf(0, 1, 7, 65537, full)) {
			t.Fatalf("node %d was told %v", other, show(got))
		}
	}
	x.keeps(acceptOf(7, full))
	n, pair := x.offer(3, 0, 65537)
	l := listOf(x.nonce(1), pair)
	// Its own share is told at once, a Spent first; the session's other node alone is told of it.
	x.keeps(acceptOf(7, full), spentOf(1))
	if got := x.x.Emits(); !slices.Equal(got, []node.Emit{{Pair: x.nonce(1), Challenge: x.challengeOf(full, l)}}) {
		t.Fatalf("%d shares were told", len(got))
	}
	x.opened(3, 0, 1, 7, 65537*16+1, full, l)
	x.hasTold(2)
	x.hasTold(4)
	x.share(3, n, 65537*16+1, full, l)
	x.replies(request(7, full))
	sig := x.isDone(request(7, full))
	x.keeps(acceptOf(7, full), spentOf(1), finishOf(7, full, sig))
	g, _ := gather.New(4, 1, x.keys[0].Group, full, l)
	if sig.R == (api.Point{}) || g == nil {
		t.Fatal("no signature")
	}
	x.tick()
	for other := 2; other <= 4; other++ {
		if got := x.told(other); len(got) != 1 || x.text(got[0]) != x.text(finalOf(1, 7, full, sig)) {
			t.Fatalf("node %d was told %v", other, show(got))
		}
	}
	if len(x.x.Blamed()) != 0 || len(x.x.Emits()) != 1 {
		t.Error("blamed, or another share")
	}
	x.ticks(100)
	x.views(0)
}

// A request of another node: it is final for the coordinator, but nobody is replied to here.
func TestJobOfAnother(t *testing.T) {
	x := rigOf(t, 4, 1, 1)
	x.tell(2, gossipOf(2, 7, "m"))
	x.hasTold(4, askOf(0, 2, 7, 65537, "m"))
	sig := x.finish(4, 0, 2, 7, 65537, "m", x.nonce(1))
	x.replies()
	x.keeps(spentOf(1))
	x.told(2)
	x.tell(2, gossipOf(2, 7, "m"))
	x.hasTold(2, finalOf(2, 7, "m", sig))
	x.hasTold(4)
}

// Jobs go around: the first one of the next node that has some, behind the one whose request was taken last. Each node's are
// taken in the order in which they came.
func TestJobsGoAround(t *testing.T) {
	x := rigOf(t, 4, 1, 1)
	x.tell(3, gossipOf(3, 9, "m"))
	x.hasTold(4, askOf(0, 3, 9, 65537, "m"))
	for _, n := range []note.Note{
		gossipOf(2, 8, "m"), gossipOf(3, 2, "m"), gossipOf(2, 1, "m"), gossipOf(3, 2, "m"), gossipOf(3, 3, "m"), gossipOf(3, 3, "n"),
	} {
		x.tell(n.Origin, n)
	}
	x.submits(request(6, "m"), queue.Accepted)
	x.submits(request(5, "m"), queue.Accepted)
	x.tick()
	x.told(4)
	own := 1
	for i, want := range []note.Note{
		gossipOf(3, 9, "m"), gossipOf(1, 6, "m"), gossipOf(2, 8, "m"), gossipOf(3, 2, "m"), gossipOf(1, 5, "m"), gossipOf(2, 1, "m"),
		gossipOf(3, 3, "m"), gossipOf(3, 3, "n"),
	} {
		number := 65537 + i
		if i > 0 {
			// It was told behind the Final of the last one.
			got := x.told(4)
			if len(got) != 1 || x.text(got[0]) != x.text(askOf(0, want.Origin, want.ID, number, want.M)) {
				t.Fatalf("job %d: %v", i, show(got))
			}
		}
		x.finish(4, 0, want.Origin, want.ID, number, want.M, x.nonce(own))
		// Of each job a nonce is spent, and one is left: the next one of the share.
		own += 2
	}
	x.hasTold(4)
	x.replies(request(6, "m"), request(5, "m"))
}

// A job begins with what is heard first, not with the next tick.
func TestJobAtOnce(t *testing.T) {
	x := rigOf(t, 4, 1, 1)
	x.tell(3, gossipOf(3, 9, "m"))
	x.tell(2, gossipOf(2, 8, "m"))
	x.hasTold(4, askOf(0, 3, 9, 65537, "m"))
	// In a table none of which fails it is done at once.
	y := rigOf(t, 3, 0, 1)
	y.tell(2, gossipOf(2, 8, "m"))
	if got := y.x.Emits(); len(got) != 1 || got[0].Pair != y.nonce(1) {
		t.Errorf("%v", got)
	}
	y.keeps(spentOf(1))
	y.tick()
	got := y.told(3)
	if len(got) != 2 || y.text(got[0]) != y.text(askOf(0, 2, 8, 65537, "m")) || y.text(got[1]) != y.text(finalOf(2, 8, "m", got[1].Sig)) {
		t.Errorf("%v", show(got))
	}
}

// No more than eight requests of a node are open at once.
func TestRoomOfOthers(t *testing.T) {
	x := rigOf(t, 4, 1, 1)
	for id := 1; id <= 10; id++ {
		x.tell(2, gossipOf(2, id, "m"))
		x.tell(2, gossipOf(2, id, "m"))
	}
	x.forget()
	for id := 1; id <= 8; id++ {
		x.finish(4, 0, 2, id, 65536+id, "m", x.nonce(2*id-1))
		if id == 1 {
			// There is room for one more.
			x.tell(2, gossipOf(2, 20, "m"))
			x.tell(2, gossipOf(2, 21, "m"))
		}
		x.told(4)
	}
	x.finish(4, 0, 2, 20, 65536+9, "m", x.nonce(17))
	x.hasTold(4)
	x.views(0)
}

// Who is no coordinator has no job; it begins with its view.
func TestWhoseTurn(t *testing.T) {
	x := rigOf(t, 4, 1, 2)
	x.submits(request(1, "m"), queue.Accepted)
	x.tell(3, gossipOf(3, 5, "m"))
	x.hasTold(4, gossipOf(2, 1, "m"))
	x.hasTold(4)
	x.tell(3, beatOf(5))
	x.tell(4, beatOf(5))
	x.views(5)
	x.hasTold(4, gossipOf(2, 1, "m"), askOf(5, 2, 1, 65537, "m"))
	// The next view gives it up; what is told of it is nothing any more.
	x.tell(3, beatOf(6))
	x.tell(4, beatOf(6))
	x.hasTold(4, gossipOf(2, 1, "m"))
	x.offer(4, 5, 65537)
	x.offer(3, 5, 65537)
	x.hasTold(4)
	x.keeps(acceptOf(1, "m"))
	// When it is its turn again, it is another job: of the next node behind the one whose request was taken last.
	x.tell(3, beatOf(9))
	x.tell(4, beatOf(9))
	x.hasTold(4, gossipOf(2, 1, "m"), askOf(9, 3, 5, 65538, "m"))
	x.offer(4, 9, 65537)
	x.hasTold(4)
	x.forget()
	n, pair := x.offer(3, 9, 65538)
	l := listOf(x.nonce(2), pair)
	x.opened(3, 9, 3, 5, 65538*16+1, "m", l)
	x.share(3, n, 65538*16+1, "m", l)
	x.tick()
	if got := x.told(4); len(got) != 2 || got[0].Kind != note.Final || x.text(got[1]) != x.text(askOf(9, 2, 1, 65539, "m")) {
		t.Errorf("%v", show(got))
	}
}

// Jobs are numbered by lives.
func TestJobsOfLives(t *testing.T) {
	x := rigOf(t, 4, 1, 1)
	for life := 1; life <= 4; life++ {
		if life > 1 {
			x.again(0, 0)
			for other := 2; other <= 4; other++ {
				x.meet(other, 1024+life)
				x.tell(other, beatOf(0))
			}
		} else {
			x.submits(request(1, "m"), queue.Accepted)
			x.forget()
			continue
		}
		x.hasTold(2, askOf(0, 1, 1, 65536*life+1, "m"))
		// An Offer that answers another life's.
		x.offer(3, 0, 65536*(life-1)+1)
		x.hasTold(3, askOf(0, 1, 1, 65536*life+1, "m"))
		x.forget()
		x.offer(4, 0, 65536*life+2)
		x.keeps(acceptOf(1, "m"))
	}
}

// What an Offer must be: of the job's number, with a pair of the node that tells it.
func TestOffersThatAreNone(t *testing.T) {
	x := rigOf(t, 4, 1, 1)
	x.offer(3, 0, 65537)
	x.submits(request(1, "m"), queue.Accepted)
	x.forget()
	for _, number := range []int{1, 65536, 65538, 65537 * 16, 65537*16 + 1, 2*65536 + 1, 1 << 40} {
		x.offer(3, 0, number)
	}
	_, fourth := x.issue(4)
	own := x.nonce(1)
	for _, pair := range []bind.Pair{fourth, own, {Node: 9, D: own.D, E: own.E}} {
		x.tell(3, offerOf(0, 1, 1, 65537, pair))
	}
	x.hasTold(3)
	x.keeps(acceptOf(1, "m"))
	if len(x.x.Blamed()) != 0 {
		t.Errorf("%v", x.x.Blamed())
	}
	sig := x.finish(4, 0, 1, 1, 65537, "m", own)
	if x.isDone(request(1, "m")) != sig {
		t.Error("another signature")
	}
	// Nor is one that comes behind the end.
	x.offer(3, 0, 65537)
	x.tick()
	if got := x.told(3); len(got) != 1 || got[0].Kind != note.Final {
		t.Errorf("%v", show(got))
	}
}

// A node that tells nothing: the next one opens another session; each has its own number, and the first one that has all
// its shares is the end.
func TestSilentInSession(t *testing.T) {
	x := rigOf(t, 4, 1, 1)
	x.submits(request(1, "m"), queue.Accepted)
	x.forget()
	var lists [][]bind.Pair
	numbers := []int{2: 0, 3: 0, 4: 0}
	for i, other := range []int{4, 2, 3} {
		n, pair := x.offer(other, 0, 65537)
		numbers[other] = n
		l := listOf(x.nonce(i+1), pair)
		lists = append(lists, l)
		x.opened(other, 0, 1, 1, 65537*16+i+1, "m", l)
	}
	x.keeps(acceptOf(1, "m"), spentOf(1), spentOf(2), spentOf(3))
	if len(x.x.Emits()) != 3 {
		t.Errorf("%d shares were told", len(x.x.Emits()))
	}
	// Shares of a session that is not theirs, or is none, of another job: nothing.
	z := api.Num{5}
	for _, session := range []int{65537*16 + 2, 65537*16 + 3, 65537 * 16, 65537*16 + 4, 65537*16 + 15, 65538*16 + 1, 65536*16 + 1, 1, 65537} {
		_, next := x.issue(4)
		x.tell(4, shareOf(0, 1, 1, session, z, next))
	}
	if len(x.x.Blamed()) != 0 {
		t.Fatalf("%v", x.x.Blamed())
	}
	x.waits(1)
	x.share(2, numbers[2], 65537*16+2, "m", lists[1])
	x.replies(request(1, "m"))
	// Those of the others come too late.
	x.share(3, numbers[3], 65537*16+3, "m", lists[2])
	x.replies()
	x.waits()
}

// A wrong share: that node is bad, and in no further session; it is blamed in this life.
func TestBlamed(t *testing.T) {
	x := rigOf(t, 7, 2, 1)
	x.submits(request(1, "m"), queue.Accepted)
	x.forget()
	n5, five := x.offer(5, 0, 65537)
	_, three := x.offer(3, 0, 65537)
	l := listOf(x.nonce(1), three, five)
	x.opened(3, 0, 1, 1, 65537*16+1, "m", l)
	_, next := x.issue(3)
	x.tell(3, shareOf(0, 1, 1, 65537*16+1, api.Num{7}, next))
	if got := x.x.Blamed(); !slices.Equal(got, []int{3}) {
		t.Fatalf("%v", got)
	}
	// A next pair of another node makes it bad, too; its share stays taken.
	z, _ := x.mates[5].hand.Sign(n5, "m", l)
	_, other := x.issue(6)
	x.tell(5, shareOf(0, 1, 1, 65537*16+1, z, other))
	if got := x.x.Blamed(); !slices.Equal(got, []int{3, 5}) {
		t.Fatalf("%v", got)
	}
	blamed := x.x.Blamed()
	for i := range blamed[:cap(blamed)] {
		blamed[:cap(blamed)][i] = 9
	}
	x.waits(1)
	x.offer(3, 0, 65537)
	n7, seven := x.offer(7, 0, 65537)
	n2, two := x.offer(2, 0, 65537)
	l = listOf(x.nonce(2), two, seven)
	x.tick()
	x.told(2)
	x.share(7, n7, 65537*16+2, "m", l)
	x.share(2, n2, 65537*16+2, "m", l)
	x.replies(request(1, "m"))
	// It stays blamed with the next jobs and views, in this life; Asks come to all.
	x.tick()
	x.told(3)
	x.submits(request(2, "m"), queue.Accepted)
	x.hasTold(3, gossipOf(1, 2, "m"), askOf(0, 1, 2, 65538, "m"))
	x.tell(2, beatOf(1))
	x.tell(3, beatOf(1))
	x.tell(4, beatOf(1))
	x.views(1)
	if got := x.x.Blamed(); !slices.Equal(got, []int{3, 5}) {
		t.Fatalf("%v", got)
	}
	x.again(0, 0)
	if got := x.x.Blamed(); len(got) != 0 {
		t.Fatalf("%v", got)
	}
}

// What a job's Offer makes bad is blamed; where no session is opened, too. A Share of a node that is in none is nothing.
func TestShareOfNone(t *testing.T) {
	x := rigOf(t, 4, 1, 1)
	_, next := x.issue(3)
	x.tell(3, shareOf(0, 1, 1, 65537*16+1, api.Num{7}, next))
	x.submits(request(1, "m"), queue.Accepted)
	x.tell(3, shareOf(0, 1, 1, 65537*16+1, api.Num{7}, next))
	x.offer(4, 0, 65537)
	x.tell(3, shareOf(0, 1, 1, 65537*16+1, api.Num{7}, next))
	if got := x.x.Blamed(); len(got) != 0 {
		t.Fatalf("%v", got)
	}
	x.waits(1)
}
