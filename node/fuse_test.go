package node_test

import (
	"slices"
	"testing"

	"wardmote/api"
	"wardmote/bind"
	"wardmote/note"
	"wardmote/queue"
)

// losses goes through what a crash may leave of what is not synced: some of its bytes, and a byte that is wrong.
func losses(count int, do func(keep, mask int)) {
	for keep := range count + 1 {
		do(keep, 0)
		do(keep, 1+keep*37%255)
	}
}

// isDown looks for a node that is down.
func (x *rig) isDown() {
	x.t.Helper()
	if x.x.Up() || len(x.x.Tick()) != 0 {
		x.t.Fatal("it is up")
	}
	x.submits(request(99, "m"), 0)
}

// synced is how many bytes of the file last, and how many do not.
func (x *rig) synced() (int, int) {
	length, synced := x.file.Len()
	return synced, length - synced
}

// 24.1: of a number below 1 nothing; of another one the power goes at that step, and no step is done from then on.
func TestFuse(t *testing.T) {
	for _, none := range []int{0, -1, -1 << 40} {
		x := rigOf(t, 1, 0, 1)
		x.x.Fuse(none)
		x.submits(request(1, "m"), queue.Accepted)
		x.replies(request(1, "m"))
	}
	x := rigOf(t, 1, 0, 1)
	x.x.Fuse(7)
	x.submits(request(1, "m"), queue.Accepted)
	x.replies(request(1, "m"))
	x.x.Fuse(0)
	x.x.Fuse(-1)
	synced, rest := x.synced()
	x.submits(request(2, "m"), 0)
	x.isDown()
	if s, r := x.synced(); s != synced || r != rest {
		t.Errorf("%d, %d bytes", s, r)
	}
	// What it told ahead of that is told.
	if len(x.x.Emits()) != 1 || x.x.Life() != 1 {
		t.Error("no share was told")
	}
	x.x.Fuse(1)
	x.again(0, 0)
	x.submits(request(2, "m"), queue.Accepted)
	x.replies(request(2, "m"))
}

// Of two the power goes at the first one that comes, whichever was told first.
func TestTwoFuses(t *testing.T) {
	for _, fuses := range [][]int{{2, 9}, {9, 2}, {2, 2}, {2, 0}} {
		x := rigOf(t, 4, 1, 2)
		for _, k := range fuses {
			x.x.Fuse(k)
		}
		x.submits(request(1, "m"), 0)
		if _, rest := x.synced(); rest != 21 {
			t.Errorf("%v: %d bytes are not synced", fuses, rest)
		}
	}
	x := rigOf(t, 4, 1, 2)
	x.x.Fuse(3)
	x.submits(request(1, "m"), queue.Accepted)
	x.x.Fuse(3)
	x.submits(request(2, "m"), 0)
	x.keeps(acceptOf(1, "m"))
}

// What a tick would have sent is lost, too.
func TestFuseOfTick(t *testing.T) {
	for k := 1; k <= 4; k++ {
		x := rigOf(t, 2, 0, 1)
		x.file = fileOf(acceptOf(1, "m"))
		x.open()
		x.x.Fuse(k)
		if out := x.x.Tick(); len(out) != 0 {
			t.Fatalf("step %d: %d letters are sent", k, len(out))
		}
		x.isDown()
		x.replies()
	}
}

// A step is one that is tried: a write for which there is no room is one, too.
func TestFuseOfFullFile(t *testing.T) {
	x := rigIn(t, 4, 1, 2, fileWith(t, 20))
	x.x.Fuse(2)
	x.submits(request(1, "m"), queue.Busy)
	x.submits(request(1, "m"), 0)
	x.isDown()
}

// aloneSteps are what a node alone does with a request, step by step: Accept, Spent and Finish, each written and synced.
const aloneSteps = 6

// 24.2, 24.3: the power goes at each step of a node alone, and each beginning of what is not synced is kept: opened again, it
// has what was accepted, answers what was finished, and uses no nonce again.
func TestFuseAlone(t *testing.T) {
	for k := 1; k <= aloneSteps+1; k++ {
		first := rigOf(t, 1, 0, 1)
		first.x.Fuse(k)
		first.x.Submit(request(1, "m"))
		_, count := first.synced()
		losses(count, func(keep, mask int) { fuseAlone(t, k, keep, mask, count) })
	}
}

// fuseAlone has the power go at step k, and so many of count bytes be kept.
func fuseAlone(t *testing.T, k, keep, mask, count int) {
	t.Helper()
	x := rigOf(t, 1, 0, 1)
	x.x.Fuse(k)
	if k > aloneSteps {
		x.submits(request(1, "m"), queue.Accepted)
		x.replies(request(1, "m"))
		return
	}
	x.submits(request(1, "m"), 0)
	x.isDown()
	x.replies()
	emits := x.x.Emits()
	if told := k > 4; len(emits) > 0 != told {
		t.Fatalf("step %d: %d shares were told", k, len(emits))
	}
	x.again(keep, mask)
	whole := keep == count && count > 0
	switch {
	case k > 2 && !(k == 6 && whole), k == 2 && whole:
		x.waits(1)
		x.submits(request(1, "m"), queue.Accepted)
		x.submits(request(1, "n"), queue.Reject)
		x.tick()
		x.replies(request(1, "m"))
	case k == 6:
		x.waits()
		x.isDone(request(1, "m"))
	default:
		x.waits()
		x.submits(request(1, "n"), queue.Accepted)
		x.replies(request(1, "n"))
	}
	for _, emit := range x.x.Emits() {
		if len(emits) > 0 && emit.Pair == emits[0].Pair {
			t.Fatalf("step %d, %d bytes: a nonce was used again", k, keep)
		}
	}
}

// 24.3: the power goes while a Spent is written or synced: no share is told, neither then nor in another life, but of a nonce
// that the file does not tell as spent, once.
func TestFuseOfShare(t *testing.T) {
	for k := 1; k <= 2; k++ {
		losses(18*(k-1), func(keep, mask int) {
			x := rigOf(t, 4, 1, 2)
			x.offers(1, 0, 1)
			_, other := x.issue(1)
			l := listOf(x.nonce(1), other)
			x.x.Fuse(k)
			m := x.mates[1]
			m.s.Push(x.text(openOf(0, 3, 9, 1120017, "m", l)))
			x.hears(1, m.s.Frames()[0])
			x.isDown()
			if len(x.x.Emits()) != 0 {
				t.Fatal("a share was told")
			}
			x.again(keep, mask)
			x.meet(1, 2048)
			open := openOf(0, 3, 9, 1120017, "m", l)
			x.refuses(1, open)
			if k == 2 && keep == 18 {
				x.offers(1, 0, 2)
				x.refuses(1, open)
				return
			}
			x.offers(1, 0, 1)
			x.signs(1, 0, 1, 2, "m", l)
		})
	}
}

// 24.2: the power goes while a Finish is written or synced: nobody is replied to; opened again, it is done, or waits, and
// comes to its end.
func TestFuseOfFinish(t *testing.T) {
	for k := 1; k <= 2; k++ {
		losses(88*(k-1), func(keep, mask int) {
			x := rigOf(t, 4, 1, 2)
			x.submits(request(1, "m"), queue.Accepted)
			x.x.Fuse(k)
			m := x.mates[3]
			sig := x.sigOf("m")
			m.s.Push(x.text(finalOf(2, 1, "m", sig)))
			x.hears(3, m.s.Frames()[0])
			x.isDown()
			x.replies()
			if _, count := x.synced(); count != 88*(k-1) {
				t.Fatalf("%d bytes are not synced", count)
			}
			x.again(keep, mask)
			x.replies()
			if keep == 88 {
				x.waits()
				if x.isDone(request(1, "m")) != sig {
					t.Fatal("another signature")
				}
				return
			}
			x.waits(1)
			x.meet(3, 2048)
			x.tell(3, finalOf(2, 1, "m", sig))
			x.replies(request(1, "m"))
		})
	}
}

// The coordinator's own share: the power goes at its Spent, or at the Finish behind the last share; what it would have sent
// is lost, and it is a job of its next life.
func TestFuseOfJob(t *testing.T) {
	for k := 1; k <= 4; k++ {
		x := rigOf(t, 4, 1, 1)
		x.submits(request(1, "m"), queue.Accepted)
		x.forget()
		x.x.Fuse(k)
		n, pair := x.issue(3)
		l := listOf(x.nonce(1), pair)
		x.say(3, offerOf(0, 1, 1, 65537, pair), k > 2)
		if k > 2 {
			z, _ := x.mates[3].hand.Sign(n, "m", l)
			x.say(3, shareOf(0, 1, 1, 65537*16+1, z, x.pairOf(3)), false)
		}
		x.isDown()
		x.replies()
		if got := len(x.x.Emits()); got != min(k/3, 1) {
			t.Fatalf("step %d: %d shares were told", k, got)
		}
		x.again(0, 0)
		x.waits(1)
		spent := min(k/3, 1)
		for other := 2; other <= 4; other++ {
			x.meet(other, 1025)
		}
		x.tick()
		x.told(4)
		sig := x.finish(4, 0, 1, 1, 2*65536+1, "m", x.nonce(spent+1))
		if x.isDone(request(1, "m")) != sig {
			t.Error("another signature")
		}
	}
}

// say has a mate tell the node a note, of which an ack is sent, or nothing.
func (x *rig) say(from int, n note.Note, acked bool) {
	x.t.Helper()
	m := x.mates[from]
	number, _ := m.s.Push(x.text(n))
	if acked {
		x.takes(from, m.s.Frames()[0], ack(1024, number))
		m.s.Heard(ack(1024, number))
	} else {
		x.hears(from, m.s.Frames()[0])
	}
}

// 24.2: what was finished is answered the same, in each life; what waits keeps its order.
func TestManyLives(t *testing.T) {
	x := rigOf(t, 1, 0, 1)
	sigs := map[int]api.Sig{}
	var pairs []bind.Pair
	for life := 1; life <= 30; life++ {
		x.x.Fuse(1 + life*5%13)
		for id := life; id < life+3; id++ {
			x.x.Submit(request(id, "m"))
		}
		for _, r := range x.x.Replies() {
			if _, is := sigs[r.ID]; is {
				t.Fatalf("%d is replied again", r.ID)
			}
			sigs[r.ID] = r.Sig
		}
		for _, emit := range x.x.Emits() {
			if slices.Contains(pairs, emit.Pair) {
				t.Fatal("a nonce is used again")
			}
			pairs = append(pairs, emit.Pair)
		}
		_, count := x.synced()
		x.again(min(count, life%3*20), life%2*7)
		for id, s := range sigs {
			if x.isDone(request(id, "m")) != s {
				t.Fatalf("%d has another signature", id)
			}
		}
	}
	if len(sigs) < 10 {
		t.Errorf("%d replies", len(sigs))
	}
}
