package roast

import (
	"slices"
	"testing"

	"wardmote/api"
	"wardmote/bind"
	"wardmote/dkg"
	"wardmote/feld"
	"wardmote/gather"
	"wardmote/schnorr"
	"wardmote/share"
	"wardmote/signer"
)

// A table is four signers, and a coordinator, in some of whose sessions the group's nonce is taken to be the point at
// infinity, as no such pairs are known.
type table struct {
	t       *testing.T
	signers []*signer.Signer
	public  api.Point
	r       *Roast
}

// tableOf is one in which these sessions are such.
func tableOf(t *testing.T, numbers ...int) *table {
	t.Helper()
	line := []api.Num{{11}, {5}}
	group, _ := feld.Commit(line)
	r, e := New(4, 1, group, "m")
	if e != api.OK {
		t.Fatal(e)
	}
	begin := r.begin
	r.begin = func(l []bind.Pair) (*gather.Gather, api.Errno) {
		if slices.Contains(numbers, r.Sessions()+1) {
			return nil, api.ErrCurve
		}
		return begin(l)
	}
	out := &table{t: t, public: group[0], r: r}
	for self := 1; self <= 4; self++ {
		x, _ := share.Eval(line, self)
		s, e := signer.New(dkg.Key{N: 4, F: 1, Self: self, Share: x, Public: group[0], Group: group}, "seed", 0)
		if e != api.OK {
			t.Fatal(e)
		}
		out.signers = append(out.signers, s)
	}
	return out
}

// issue is a node's next pair.
func (x *table) issue(node int) bind.Pair {
	_, pair, _ := x.signers[node-1].Issue()
	return pair
}

// begin has a node answer: the session that is opened, whose number is told, or 0.
func (x *table) begin(node, number int) Session {
	x.t.Helper()
	s, is, e := x.r.Begin(x.issue(node))
	if s.Number != number || is != (number > 0) || e != api.OK {
		x.t.Fatalf("Begin of %d: %v, %v, %v", node, s, is, e)
	}
	return s
}

// share has a node tell its share, of one of its nonces: the session that is opened, whose number is told, or 0.
func (x *table) share(node, nonce int, in Session, number int) Session {
	x.t.Helper()
	z, _ := x.signers[node-1].Sign(nonce, "m", in.L)
	s, is, e := x.r.Share(in.Number, node, z, x.issue(node))
	if s.Number != number || is != (number > 0) || e != api.OK {
		x.t.Fatalf("Share of %d: %v, %v, %v", node, s, is, e)
	}
	return s
}

// is looks for nodes that are bad and busy, and for how many sessions there are.
func (x *table) is(bad, busy []int, sessions int) {
	x.t.Helper()
	if !slices.Equal(x.r.Bad(), bad) || !slices.Equal(x.r.Busy(), busy) || x.r.Sessions() != sessions {
		x.t.Fatalf("bad %v, busy %v, %d sessions, not %v, %v, %d", x.r.Bad(), x.r.Busy(), x.r.Sessions(), bad, busy, sessions)
	}
}

// isDone looks for whether there is a signature, that holds.
func (x *table) isDone(want bool) {
	x.t.Helper()
	sig, is := x.r.Done()
	if is != want || is && schnorr.Verify(x.public, "m", sig) != api.OK || !is && sig != (api.Sig{}) {
		x.t.Fatalf("Done: %v, %v", sig, is)
	}
}

// 21.2: a session whose group's nonce is the point at infinity is opened by Begin, and its nodes are bad, all of them; the
// others go on.
func TestBeginAtInfinity(t *testing.T) {
	x := tableOf(t, 1)
	x.begin(4, 0)
	s := x.begin(2, 1)
	if len(s.L) != 2 || s.L[0].Node != 2 || s.L[1].Node != 4 {
		t.Fatalf("%v", s)
	}
	x.is([]int{2, 4}, nil, 1)
	for _, node := range []int{2, 4} {
		if s, is, e := x.r.Begin(x.issue(node)); s.Number != 0 || is || e != api.ErrState {
			t.Errorf("Begin of %d: %v, %v, %v", node, s, is, e)
		}
		z, _ := x.signers[node-1].Sign(1, "m", s.L)
		if s, is, e := x.r.Share(1, node, z, x.issue(node)); s.Number != 0 || is || e != api.ErrNone {
			t.Errorf("Share of %d: %v, %v, %v", node, s, is, e)
		}
	}
	x.isDone(false)
	x.begin(1, 0)
	s = x.begin(3, 2)
	x.is([]int{2, 4}, []int{1, 3}, 2)
	x.share(3, 1, s, 0)
	x.share(1, 1, s, 0)
	x.is([]int{2, 4}, nil, 2)
	x.isDone(true)
}

// 21.3: so is one that a share's next pair opens; the share stays taken.
func TestNextAtInfinity(t *testing.T) {
	x := tableOf(t, 2)
	x.begin(1, 0)
	first := x.begin(2, 1)
	x.begin(3, 0)
	s := x.share(1, 1, first, 2)
	if len(s.L) != 2 || s.L[0].Node != 1 || s.L[1].Node != 3 {
		t.Fatalf("%v", s)
	}
	x.is([]int{1, 3}, []int{2}, 2)
	x.isDone(false)
	x.share(2, 1, first, 0)
	x.is([]int{1, 3}, nil, 2)
	x.isDone(true)
}
