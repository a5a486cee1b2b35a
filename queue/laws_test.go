package queue_test

import (
	"math/rand"
	"strings"
	"testing"
	"unsafe"

	"wardmote/api"
	"wardmote/queue"
)

// 22.1, 22.2: whatever is submitted and finished, in any order, a queue is as a plain one.
func TestAnyCalls(t *testing.T) {
	source := rand.New(rand.NewSource(1))
	for _, most := range []int{3, 9, 12, 40} {
		for range 60 {
			q, p := queue.New(), new(plain)
			for range 150 {
				id := source.Intn(most+2) - 1
				if source.Intn(5) < 3 {
					r := request(id, strings.Repeat("m", source.Intn(5)/4))
					got, s := q.Submit(r)
					if want, sig := p.submit(r); got != want || s != sig {
						t.Fatalf("Submit of %v: %d, %v, not %d, %v", r, got, s, want, sig)
					}
				} else {
					s := sigOf(source.Uint64())
					finishes(t, q, id, s, p.finish(id, s))
				}
				like(t, q, p, id)
			}
		}
	}
}

// FuzzCalls goes through calls that bytes tell.
func FuzzCalls(f *testing.F) {
	f.Add([]byte{2, 4, 6, 8, 10, 12, 14, 16, 18, 3, 5, 18, 130})
	f.Fuzz(func(t *testing.T, calls []byte) {
		q, p := queue.New(), new(plain)
		for i, call := range calls {
			id := int(call&127)/2 - 1
			if call%2 == 0 {
				r := request(id, string(rune('a'+call>>7)))
				got, s := q.Submit(r)
				if want, sig := p.submit(r); got != want || s != sig {
					t.Fatalf("Submit of %v: %d, %v, not %d, %v", r, got, s, want, sig)
				}
			} else {
				finishes(t, q, id, sigOf(uint64(i)), p.finish(id, sigOf(uint64(i))))
			}
			like(t, q, p, id)
		}
	})
}

// 22.3: what was accepted waits until it is finished, and is done from then on, for ever with one answer, although many
// others come and go behind it.
func TestForEver(t *testing.T) {
	q := queue.New()
	const many = 3000
	for id := 1; id <= many; id++ {
		submits(t, q, request(id, "m"), accepted)
		if id > 5 {
			finishes(t, q, id-5, sigOf(uint64(id)), api.OK)
		}
	}
	for range 2 {
		for id := 1; id <= many-5; id++ {
			isDone(t, q, request(id, "m"), sigOf(uint64(id+5)))
			submits(t, q, request(id, "n"), reject)
			finishes(t, q, id, sigOf(0), api.ErrNone)
		}
	}
	if wait, done := q.Count(); wait != 5 || done != many-5 {
		t.Errorf("Count: %d, %d", wait, done)
	}
	for i, r := range q.Waiting() {
		if r != request(many-4+i, "m") {
			t.Errorf("Waiting: %v at %d", r, i)
		}
	}
}

// R3: a message is not kept as it was handed in: what becomes of its memory later is nobody's concern.
func TestMessageIsNotKept(t *testing.T) {
	memory := []byte("a message")
	q, p := queue.New(), new(plain)
	submits(t, q, request(4, unsafe.String(&memory[0], len(memory))), accepted)
	clear(memory)
	p.submit(request(4, "a message"))
	like(t, q, p)
	submits(t, q, request(4, "a message"), accepted)
	finishes(t, q, 4, sigOf(1), api.OK)
	p.finish(4, sigOf(1))
	like(t, q, p)
}

// R3: messages that are told are nobody's else.
func TestMessagesAreNew(t *testing.T) {
	q := queue.New()
	submits(t, q, request(4, "a message"), accepted)
	one, _ := q.Get(4)
	two, _ := q.Get(4)
	texts := []string{one.M, two.M, q.Waiting()[0].M, q.Waiting()[0].M}
	for i, text := range texts {
		for _, other := range texts[:i] {
			if unsafe.StringData(text) == unsafe.StringData(other) {
				t.Errorf("two messages are one memory")
			}
		}
	}
}

// R3, R6: a list that was told is nobody's else, spare room too; the same is told again.
func TestListsAreNew(t *testing.T) {
	for count := 1; count <= 8; count++ {
		q, p := filled(t, count)
		for range 2 {
			told := q.Waiting()
			for i := range told[:cap(told)] {
				told[:cap(told)][i] = request(99, "other")
			}
			like(t, q, p, 99)
		}
		kept := q.Waiting()
		finishes(t, q, 1, sigOf(1), api.OK)
		if kept[0] != request(1, "m") || kept[count-1] != request(count, "m") {
			t.Errorf("what was told is changed by a Finish: %v", kept)
		}
	}
}
