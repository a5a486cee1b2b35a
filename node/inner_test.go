package node

import (
	"testing"

	"wardmote/api"
	"wardmote/disk"
	"wardmote/dkg"
	"wardmote/feld"
	"wardmote/queue"
)

// A life has no more than 65535 jobs: behind them nobody is asked by this node.
func TestJobsOfALife(t *testing.T) {
	line := []api.Num{{11}, {5}}
	group, _ := feld.Commit(line)
	x, e := Open(dkg.Key{N: 4, F: 1, Self: 1, Share: api.Num{16}, Public: group[0], Group: group}, "s", disk.New())
	if e != api.OK {
		t.Fatal(e)
	}
	x.jobs = 65534
	x.Submit(queue.Request{ID: 1, M: "m"})
	if x.job == nil || x.job.number != 65536+65535 {
		t.Fatalf("%v", x.job)
	}
	x.enter(4)
	x.Tick()
	x.Submit(queue.Request{ID: 2, M: "m"})
	if x.job != nil || x.jobs != 65535 || !x.Up() {
		t.Fatalf("%v", x.job)
	}
}
