package queue_test

import (
	"testing"

	"wardmote/api"
	"wardmote/queue"
)

// 22.1: the document's example, and its numbers.
func TestExample(t *testing.T) {
	q := queue.New()
	submits(t, q, request(1, "a"), queue.Accepted)
	submits(t, q, request(1, "a"), queue.Accepted)
	submits(t, q, request(1, "b"), queue.Reject)
	finishes(t, q, 1, sigOf(5), api.OK)
	isDone(t, q, request(1, "a"), sigOf(5))
	numbers := [5]int{queue.Room, queue.Accepted, queue.Busy, queue.Reject, queue.Done}
	if numbers != [5]int{8, accepted, busy, reject, done} {
		t.Errorf("%v", numbers)
	}
}

// 22.1: a new queue has no request, and none that another one has.
func TestNew(t *testing.T) {
	a, b := queue.New(), queue.New()
	like(t, a, new(plain), 0, 1)
	submits(t, a, request(1, "a"), accepted)
	like(t, b, new(plain), 0, 1)
	submits(t, b, request(1, "b"), accepted)
	finishes(t, b, 1, sigOf(1), api.OK)
	like(t, a, &plain{all: []queue.Request{request(1, "a")}}, 2)
	submits(t, a, request(1, "a"), accepted)
}

// 22.1: IDs of 1 and MaxBig, messages of no byte, of MaxText, and of any bytes; they are told as they were submitted.
func TestRequests(t *testing.T) {
	q, p := queue.New(), new(plain)
	for _, r := range []queue.Request{
		request(1, "m"), request(1<<40, full), request(1<<40-1, ""), request(1<<32+1, "\x00"), request(1<<31, "\xff\xfe"),
		request(1<<32, full[1:]), request(2, "ein Käse"),
	} {
		submits(t, q, r, accepted)
		p.submit(r)
		like(t, q, p, noIDs...)
		submits(t, q, r, accepted)
	}
	like(t, q, p, noIDs...)
}

// 22.1: what is no request is rejected, also where nothing waits, where Room wait, and where its ID is known; nothing is
// changed.
func TestNoRequests(t *testing.T) {
	for _, count := range []int{0, 1, 7, 8} {
		q, p := filled(t, count)
		if count > 0 {
			finishes(t, q, 1, sigOf(1), api.OK)
			p.finish(1, sigOf(1))
		}
		for _, r := range noRequests() {
			submits(t, q, r, reject)
			like(t, q, p, r.ID)
		}
	}
}

// 22.1: a request that is known, with the same message and with another one, waiting and done; nothing is changed.
func TestKnown(t *testing.T) {
	for _, m := range []string{"", "m", full} {
		for count := range 8 {
			q, p := filled(t, count)
			submits(t, q, request(99, m), accepted)
			p.submit(request(99, m))
			for _, other := range []string{"n", "m ", "\x00", full[2:], full[1:] + "n"} {
				submits(t, q, request(99, other), reject)
				submits(t, q, request(99, m), accepted)
				like(t, q, p)
			}
			finishes(t, q, 99, sigOf(7), api.OK)
			p.finish(99, sigOf(7))
			for _, other := range []string{"n", "m ", "\x00", full[2:], full[1:] + "n", long} {
				submits(t, q, request(99, other), reject)
				isDone(t, q, request(99, m), sigOf(7))
				like(t, q, p)
			}
		}
	}
}

// 22.1: the eighth and the ninth that wait, and one more behind a Finish. Those that are known are answered all the same.
func TestRoom(t *testing.T) {
	for first := 1; first <= 8; first++ {
		q, p := filled(t, 8)
		for range 2 {
			submits(t, q, request(9, "m"), busy)
			submits(t, q, request(1<<40, full), busy)
			submits(t, q, request(8, "m"), accepted)
			submits(t, q, request(8, "n"), reject)
			like(t, q, p, 9, 1<<40)
		}
		finishes(t, q, first, sigOf(1), api.OK)
		p.finish(first, sigOf(1))
		isDone(t, q, request(first, "m"), sigOf(1))
		// What was told to be busy is not known: it may come with another message.
		submits(t, q, request(9, "n"), accepted)
		p.submit(request(9, "n"))
		like(t, q, p, 10)
		submits(t, q, request(10, "m"), busy)
		submits(t, q, request(9, "n"), accepted)
		submits(t, q, request(9, "m"), reject)
		isDone(t, q, request(first, "m"), sigOf(1))
		submits(t, q, request(first, "n"), reject)
		like(t, q, p, 10)
	}
}

// 22.2: whichever is finished, first, last or between: the others stay, and in their order.
func TestFinish(t *testing.T) {
	for count := 1; count <= 8; count++ {
		for id := 1; id <= count; id++ {
			q, p := filled(t, count)
			finishes(t, q, id, sigOf(uint64(id)), api.OK)
			p.finish(id, sigOf(uint64(id)))
			like(t, q, p)
			isDone(t, q, request(id, "m"), sigOf(uint64(id)))
			// What is done does not wait, and keeps its signature.
			finishes(t, q, id, sigOf(99), api.ErrNone)
			finishes(t, q, id, api.Sig{}, api.ErrNone)
			isDone(t, q, request(id, "m"), sigOf(uint64(id)))
			like(t, q, p)
		}
	}
}

// 22.2: of IDs that are not known, or are none, none waits; nothing is changed.
func TestFinishNone(t *testing.T) {
	for _, count := range []int{0, 1, 8} {
		q, p := filled(t, count)
		for _, id := range append([]int{9, 1 << 32, 1<<32 + 1, 1 << 40}, noIDs...) {
			finishes(t, q, id, sigOf(1), api.ErrNone)
			like(t, q, p, id)
		}
	}
	// What was busy or rejected does not wait either.
	q, p := filled(t, 8)
	submits(t, q, request(9, "m"), busy)
	finishes(t, q, 9, sigOf(1), api.ErrNone)
	submits(t, q, request(1, "n"), reject)
	finishes(t, q, 1, sigOf(1), api.OK)
	p.finish(1, sigOf(1))
	like(t, q, p, 9)
}

// 22.2: a signature is kept as it is, also the zero one, and one that is none.
func TestSignatures(t *testing.T) {
	ones := ^uint64(0)
	most := api.Num{ones, ones, ones, ones}
	for _, s := range []api.Sig{
		{}, {Z: api.Num{1}}, {R: api.Point{Inf: true}}, {R: api.Point{X: most, Y: most, Inf: true}, Z: most}, sigOf(3),
	} {
		q, p := filled(t, 3)
		finishes(t, q, 2, s, api.OK)
		p.finish(2, s)
		for range 2 {
			isDone(t, q, request(2, "m"), s)
			finishes(t, q, 2, sigOf(4), api.ErrNone)
			like(t, q, p)
		}
	}
}

// 22.2: the order is that of being accepted, not of IDs, nor of being submitted again.
func TestOrder(t *testing.T) {
	q, p := queue.New(), new(plain)
	for _, id := range []int{7, 3, 1 << 40, 1, 9, 2} {
		submits(t, q, request(id, "m"), accepted)
		p.submit(request(id, "m"))
	}
	submits(t, q, request(7, "m"), accepted)
	like(t, q, p)
	for i, id := range []int{1, 2, 7} {
		finishes(t, q, id, sigOf(uint64(i)), api.OK)
		p.finish(id, sigOf(uint64(i)))
		submits(t, q, request(20-i, "n"), accepted)
		p.submit(request(20-i, "n"))
		like(t, q, p)
	}
}

// 22.1, 22.2: a nil queue: Busy, or Reject of what is no request; it knows none.
func TestNil(t *testing.T) {
	var q *queue.Queue
	for range 2 {
		for _, r := range noRequests() {
			submits(t, q, r, reject)
		}
		for _, r := range []queue.Request{request(1, "m"), request(1, "n"), request(1<<40, full), request(7, "")} {
			submits(t, q, r, busy)
			finishes(t, q, r.ID, sigOf(1), api.ErrNone)
		}
		for _, id := range noIDs {
			finishes(t, q, id, sigOf(1), api.ErrNone)
		}
		like(t, q, new(plain), append([]int{1, 2, 1 << 40}, noIDs...)...)
	}
}

// P1: a queue that New did not make is one without requests.
func TestZero(t *testing.T) {
	var q queue.Queue
	p := new(plain)
	like(t, &q, p, 0, 1)
	finishes(t, &q, 1, sigOf(1), api.ErrNone)
	submits(t, &q, request(0, "m"), reject)
	submits(t, &q, request(1, "m"), accepted)
	p.submit(request(1, "m"))
	like(t, &q, p, 2)
}
