package queue_test

import (
	"math"
	"slices"
	"strings"
	"testing"

	"wardmote/api"
	"wardmote/queue"
)

const (
	accepted = 1
	busy     = 2
	reject   = 3
	done     = 4
)

var (
	// full has as many bytes as a message may have, and long one more.
	full = strings.Repeat("m", 4096)
	long = full + "m"

	// noIDs are none, also such as are one mod 2^32.
	noIDs = []int{
		0, -1, -2, -1 << 31, 1 - 1<<32, -1 << 40, math.MinInt, 1<<40 + 1, 1<<40 + 2, 1 << 41, 1<<41 + 1, 1 << 62, math.MaxInt,
	}
)

// request is one.
func request(id int, m string) queue.Request { return queue.Request{ID: id, M: m} }

// noRequests are none: by the ID, by the message, by both.
func noRequests() []queue.Request {
	out := []queue.Request{{}, request(1, long), request(1<<40, long+long), request(7, long)}
	for _, id := range noIDs {
		out = append(out, request(id, "m"), request(id, ""), request(id, full), request(id, long))
	}
	return out
}

// sigOf is a signature that tells a number; it holds for nothing.
func sigOf(n uint64) api.Sig {
	return api.Sig{R: api.Point{X: api.Num{n, 1}, Y: api.Num{2, n}, Inf: n%2 == 1}, Z: api.Num{n, 3, n, 4}}
}

// A plain is a queue that has all that was accepted in a list, in that order.
type plain struct {
	all  []queue.Request
	sigs map[int]api.Sig // of those that are done, by IDs
}

// waits tells whether a request is not done.
func (p *plain) waits(r queue.Request) bool {
	_, is := p.sigs[r.ID]
	return !is
}

// waiting are those that are not done.
func (p *plain) waiting() []queue.Request {
	var out []queue.Request
	for _, r := range p.all {
		if p.waits(r) {
			out = append(out, r)
		}
	}
	return out
}

// get is what Get answers.
func (p *plain) get(id int) (queue.Request, bool) {
	for _, r := range p.all {
		if r.ID == id {
			return r, true
		}
	}
	return queue.Request{}, false
}

// submit is what Submit answers.
func (p *plain) submit(r queue.Request) (int, api.Sig) {
	if r.ID < 1 || r.ID > 1<<40 || len(r.M) > 4096 {
		return reject, api.Sig{}
	}
	if old, is := p.get(r.ID); is {
		switch {
		case old != r:
			return reject, api.Sig{}
		case p.waits(r):
			return accepted, api.Sig{}
		}
		return done, p.sigs[r.ID]
	}
	if len(p.waiting()) == 8 {
		return busy, api.Sig{}
	}
	p.all = append(p.all, r)
	return accepted, api.Sig{}
}

// finish is what Finish answers.
func (p *plain) finish(id int, s api.Sig) api.Errno {
	r, is := p.get(id)
	if !is || !p.waits(r) {
		return api.ErrNone
	}
	if p.sigs == nil {
		p.sigs = map[int]api.Sig{}
	}
	p.sigs[id] = s
	return api.OK
}

// submits looks for what Submit answers; of a request that is not done there is no signature.
func submits(t *testing.T, q *queue.Queue, r queue.Request, want int) {
	t.Helper()
	if got, s := q.Submit(r); got != want || s != (api.Sig{}) {
		t.Fatalf("Submit of %d, %d bytes: %d, %v, not %d", r.ID, len(r.M), got, s, want)
	}
}

// isDone looks for a request that is done.
func isDone(t *testing.T, q *queue.Queue, r queue.Request, want api.Sig) {
	t.Helper()
	if got, s := q.Submit(r); got != done || s != want {
		t.Fatalf("Submit of %d, %d bytes: %d, %v, not %d, %v", r.ID, len(r.M), got, s, done, want)
	}
}

// finishes looks for what Finish answers.
func finishes(t *testing.T, q *queue.Queue, id int, s api.Sig, want api.Errno) {
	t.Helper()
	if e := q.Finish(id, s); e != want {
		t.Fatalf("Finish(%d): %v, not %v", id, e, want)
	}
}

// like looks for whether a queue is as a plain one, in all that it tells without being changed; others are IDs that may be
// not known.
func like(t *testing.T, q *queue.Queue, p *plain, others ...int) {
	t.Helper()
	waiting := p.waiting()
	if got := q.Waiting(); !slices.Equal(got, waiting) {
		t.Fatalf("Waiting: %v, not %v", got, waiting)
	}
	if wait, done := q.Count(); wait != len(waiting) || done != len(p.all)-len(waiting) {
		t.Fatalf("Count: %d, %d, not %d, %d", wait, done, len(waiting), len(p.all)-len(waiting))
	}
	for _, r := range p.all {
		others = append(others, r.ID)
	}
	for _, id := range others {
		got, is := q.Get(id)
		if want, wantIs := p.get(id); got != want || is != wantIs {
			t.Fatalf("Get(%d): %v, %v, not %v, %v", id, got, is, want, wantIs)
		}
	}
}

// filled is a queue in which so many wait, from ID 1 on, and a plain one that is like it.
func filled(t *testing.T, count int) (*queue.Queue, *plain) {
	t.Helper()
	q, p := queue.New(), new(plain)
	for id := 1; id <= count; id++ {
		submits(t, q, request(id, "m"), accepted)
		p.submit(request(id, "m"))
	}
	like(t, q, p, 0, count+1)
	return q, p
}
