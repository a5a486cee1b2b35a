package node_test

import (
	"math/rand"
	"slices"
	"testing"

	"wardmote/api"
	"wardmote/node"
	"wardmote/note"
	"wardmote/queue"
)

// views looks for its view.
func (x *rig) views(want int) {
	x.t.Helper()
	if got := x.x.View(); got != want {
		x.t.Fatalf("view %d, not %d", got, want)
	}
}

// beats are the views of the Beats that a mate was told.
func (x *rig) beats(other int) []int {
	var out []int
	for _, n := range x.mates[other].heard {
		if n.Kind == note.Beat {
			out = append(out, n.View)
		}
	}
	x.mates[other].heard = nil
	return out
}

// Its view is at least the (f + 1)-th greatest of those that were told, whoever tells them, in whatever order, also less
// than before.
func TestViewsThatAreTold(t *testing.T) {
	source := rand.New(rand.NewSource(3))
	for n := 2; n <= 10; n++ {
		for f := range mostFail[n] + 1 {
			self := 1 + source.Intn(n)
			x := rigOf(t, n, f, self)
			noted := make([]int, n)
			for range 40 {
				from := 1 + source.Intn(n)
				if from == self {
					continue
				}
				view := source.Intn(1 + source.Intn(60))
				x.tell(from, beatOf(view))
				noted[from-1] = max(noted[from-1], view)
				all := slices.Sorted(slices.Values(noted))
				noted[self-1] = max(noted[self-1], all[n-1-f])
				x.views(noted[self-1])
			}
		}
	}
}

// f nodes tell a view, and f + 1.
func TestViewOfEnough(t *testing.T) {
	x := rigOf(t, 7, 2, 5)
	x.submits(request(1, "m"), queue.Accepted)
	x.hasTold(6, gossipOf(5, 1, "m"))
	for range 3 {
		x.tell(1, beatOf(20))
		x.tell(2, beatOf(1<<40))
		x.views(0)
	}
	x.hasTold(6)
	x.tell(7, beatOf(9))
	x.views(9)
	// It told all once more what waits; what others are told in a view is that view.
	x.hasTold(6, gossipOf(5, 1, "m"))
	x.tick()
	if got := x.beats(6); !slices.Equal(got, []int{9}) {
		t.Errorf("%v", got)
	}
	x.tell(7, beatOf(8))
	x.views(9)
	x.tell(6, beatOf(21))
	x.views(20)
	x.hasTold(6, gossipOf(5, 1, "m"))
	// Views that other notes have are not such.
	x.tell(1, askOf(28, 1, 1, 70000, "m"))
	x.tell(2, askOf(29, 1, 1, 70000, "m"))
	x.tell(3, askOf(30, 1, 1, 70000, "m"))
	x.views(20)
}

// It is told to all what its view is, while nothing else waits for them, in each life from 0 on.
func TestBeats(t *testing.T) {
	x := rigOf(t, 4, 1, 2)
	x.ticks(3)
	for _, other := range []int{1, 3, 4} {
		if got := x.beats(other); !slices.Equal(got, []int{0, 0, 0}) {
			t.Errorf("node %d: %v", other, got)
		}
	}
	x.tell(1, beatOf(6))
	x.tell(3, beatOf(7))
	x.views(6)
	x.ticks(2)
	if got := x.beats(4); !slices.Equal(got, []int{6, 6}) {
		t.Errorf("%v", got)
	}
	x.again(0, 0)
	x.views(0)
}

// Patience ticks, since there was none open; then with each view.
func TestPatience(t *testing.T) {
	if node.Patience != 40 {
		t.Fatal(node.Patience)
	}
	for _, before := range []int{0, 1, 39, 40, 41, 100} {
		x := rigOf(t, 4, 1, 4)
		x.ticks(before)
		x.views(0)
		x.submits(request(1, "m"), queue.Accepted)
		x.hasTold(2, gossipOf(4, 1, "m"))
		x.ticks(38)
		x.views(0)
		for view := 1; view <= 2; view++ {
			x.hasTold(2, gossipOf(4, 1, "m"))
			x.views(view)
			x.ticks(39)
			x.views(view)
		}
		x.tick()
		x.views(3)
		got := x.told(2)
		if len(got) != 2 || got[0].Kind != note.Gossip || x.text(got[1]) != x.text(askOf(3, 4, 1, 65537, "m")) {
			t.Errorf("%v", show(got))
		}
	}
}

// Patience begins anew with a view that others tell.
func TestPatienceOfViews(t *testing.T) {
	x := rigOf(t, 4, 1, 4)
	x.submits(request(1, "m"), queue.Accepted)
	x.ticks(30)
	x.tell(1, beatOf(1))
	x.tell(2, beatOf(1))
	x.views(1)
	x.ticks(39)
	x.views(1)
	x.tick()
	x.views(2)
}

// Patience begins anew when a request became final, its own, or another one's; and not when it was final, or is not.
func TestPatienceOfFinals(t *testing.T) {
	for origin := 3; origin <= 4; origin++ {
		x := rigOf(t, 4, 1, 4)
		x.submits(request(1, "m"), queue.Accepted)
		x.submits(request(2, "m"), queue.Accepted)
		x.tell(3, gossipOf(3, 2, "m"))
		x.ticks(30)
		x.tell(1, finalOf(origin, 2, "m", x.sigOf("m")))
		x.ticks(20)
		x.tell(1, finalOf(origin, 2, "m", x.sigOf("m")))
		x.tell(1, finalOf(4, 1, "m", x.sigOf("mm")))
		x.ticks(19)
		x.views(0)
		x.tick()
		x.views(1)
	}
}

// What others ask for is waited for, too; and not longer than until it is final.
func TestPatienceOfOthers(t *testing.T) {
	x := rigOf(t, 4, 1, 4)
	x.ticks(7)
	x.tell(2, gossipOf(2, 1, "m"))
	x.ticks(39)
	x.views(0)
	x.tick()
	x.views(1)
	// It has nothing of its own that it would tell.
	x.hasTold(2)
	x.tell(1, finalOf(2, 1, "m", x.sigOf("m")))
	x.ticks(200)
	x.views(1)
}

// Nothing is open: nothing is waited for, also if its view's node is silent.
func TestNoPatience(t *testing.T) {
	x := rigOf(t, 4, 1, 4)
	x.ticks(100)
	x.views(0)
	x.mates[1].mute = true
	x.ticks(100)
	x.views(0)
	x.submits(request(1, "m"), queue.Accepted)
	x.tick()
	x.views(1)
}

// A coordinator that is silent: the next view is that of a node that is not.
func TestSilent(t *testing.T) {
	for _, s := range []struct {
		mute []int
		want int
	}{{[]int{1}, 1}, {[]int{1, 2}, 2}, {[]int{1, 2, 3}, 3}, {[]int{1, 3}, 1}, {[]int{2}, 0}, {[]int{2, 3}, 0}} {
		x := rigOf(t, 4, 1, 4)
		for _, other := range s.mute {
			x.mates[other].mute = true
		}
		x.submits(request(1, "m"), queue.Accepted)
		x.ticks(4)
		x.views(0)
		x.tick()
		x.views(s.want)
		x.ticks(30)
		x.views(s.want)
	}
}

// What the watch hears is frames and acks that are right, doubled ones, too; and nothing else.
func TestHeardByTheWatch(t *testing.T) {
	beat := func(x *rig) string { return x.text(beatOf(0)) }
	for i, s := range []struct {
		tell func(x *rig)
		want int
	}{
		{func(x *rig) { x.takes(1, frame(1024, 1, beat(x)), ack(1024, 1)) }, 0},
		{func(x *rig) { x.takes(1, frame(1024, 5, beat(x)), ack(1024, 0)) }, 0},
		{func(x *rig) { x.takes(1, frame(1024, 1, "no note"), ack(1024, 1)) }, 0},
		{func(x *rig) { x.hears(1, ack(1024, 0)) }, 0},
		{func(x *rig) { x.hears(1, ack(1024, 1)) }, 0},
		{func(x *rig) {}, 1},
		{func(x *rig) { x.hears(1, ack(1024, 9)) }, 1},
		{func(x *rig) { x.hears(1, ack(1023, 1)) }, 1},
		{func(x *rig) { x.hears(1, "") }, 1},
		{func(x *rig) { x.hears(1, beat(x)) }, 1},
		{func(x *rig) { x.hears(2, ack(1024, 0)) }, 1},
		{func(x *rig) { x.takes(3, frame(1024, 1, beat(x)), ack(1024, 1)) }, 1},
	} {
		x := rigOf(t, 4, 1, 4)
		x.mates[1].mute = true
		x.submits(request(1, "m"), queue.Accepted)
		x.ticks(3)
		s.tell(x)
		x.ticks(2)
		if got := x.x.View(); got != s.want {
			t.Fatalf("%d: view %d, not %d", i, got, s.want)
		}
		x.ticks(2)
		x.views(s.want)
		x.tick()
		x.views(1)
	}
	// A frame of a life that is over.
	x := rigOf(t, 4, 1, 4)
	x.mates[1].mute = true
	x.takes(1, frame(1030, 1, beat(x)), ack(1030, 1))
	x.submits(request(1, "m"), queue.Accepted)
	x.ticks(3)
	x.hears(1, frame(1029, 1, beat(x)))
	x.ticks(2)
	x.views(1)
}

// At the greatest view there is no next one; it goes on.
func TestGreatestView(t *testing.T) {
	x := rigOf(t, 4, 1, 4)
	x.tell(1, beatOf(1<<40))
	x.tell(2, beatOf(1<<40-1))
	x.views(1<<40 - 1)
	x.submits(request(1, "m"), queue.Accepted)
	x.ticks(40)
	x.views(1 << 40)
	x.ticks(100)
	x.views(1 << 40)
	x.tell(3, finalOf(4, 1, "m", x.sigOf("m")))
	x.replies(request(1, "m"))
	if x.isDone(request(1, "m")) == (api.Sig{}) {
		t.Error("no signature")
	}
}
