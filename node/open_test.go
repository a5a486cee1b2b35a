package node_test

import (
	"math"
	"strings"
	"testing"

	"wardmote/api"
	"wardmote/curve"
	"wardmote/disk"
	"wardmote/dkg"
	"wardmote/ledger"
	"wardmote/node"
	"wardmote/queue"
	"wardmote/schnorr"
)

// fileOf is a file of records, all synced.
func fileOf(records ...string) *disk.File {
	f := disk.New()
	l, _ := ledger.Open(f)
	for _, record := range records {
		l.Append(record)
	}
	l.Sync()
	return f
}

// fileWith is a file with room for so many bytes, and no more, behind the Life of the node that is opened next.
func fileWith(t *testing.T, room int) *disk.File {
	t.Helper()
	f := disk.New()
	l, _ := ledger.Open(f)
	for {
		length, _ := f.Len()
		left := disk.MaxFile - 8 - room - length
		if left == 0 {
			l.Sync()
			return f
		}
		// A record of a byte at least, and room for one more behind it, if there is some.
		size := min(left, 9006)
		if left > size && left-size < 7 {
			size -= 7
		}
		if _, e := l.Append(strings.Repeat("x", size-6)); e != api.OK {
			t.Fatal(e)
		}
	}
}

// keyOf is node 2's of four, of which one fails.
func keyOf() dkg.Key { return keysOf(4, 1)[1] }

// noKeys do not serve.
func noKeys() []dkg.Key {
	g := curve.G()
	q := api.Num{0xbfd25e8cd0364141, 0xbaaedce6af48a03b, 0xfffffffffffffffe, math.MaxUint64}
	var out []dkg.Key
	for _, change := range []func(k *dkg.Key){
		func(k *dkg.Key) { *k = dkg.Key{} },
		func(k *dkg.Key) { k.N = 3 },
		func(k *dkg.Key) { k.N = 11 },
		func(k *dkg.Key) { k.N, k.F = 0, 0 },
		func(k *dkg.Key) { k.F = 0 },
		func(k *dkg.Key) { k.F = 2 },
		func(k *dkg.Key) { k.F = -1 },
		func(k *dkg.Key) { k.Self = 0 },
		func(k *dkg.Key) { k.Self = 5 },
		func(k *dkg.Key) { k.Self = -1 },
		func(k *dkg.Key) { k.Share = q },
		func(k *dkg.Key) { k.Share = api.Num{0, 0, math.MaxUint64, math.MaxUint64} },
		func(k *dkg.Key) { k.Group = nil },
		func(k *dkg.Key) { k.Group = k.Group[:1] },
		func(k *dkg.Key) { k.Group = append(k.Group, g) },
		func(k *dkg.Key) { k.Group[1] = api.Point{X: g.X} },
		func(k *dkg.Key) { k.Group[0] = api.Point{Inf: true}; k.Public = k.Group[0] },
		func(k *dkg.Key) { k.Group[0] = api.Point{}; k.Public = k.Group[0] },
		func(k *dkg.Key) { k.Public = g },
		func(k *dkg.Key) { k.Public = api.Point{} },
	} {
		k := keyOf()
		change(&k)
		out = append(out, k)
	}
	return out
}

// refuses looks for Open's error, and for nothing beside it; the file is as it was.
func refuses(t *testing.T, k dkg.Key, seed string, f *disk.File, want api.Errno) {
	t.Helper()
	bytes := f.Bytes()
	length, synced := f.Len()
	if x, e := node.Open(k, seed, f); x != nil || e != want {
		t.Fatalf("Open: %v, %v, not %v", x, e, want)
	}
	if l, s := f.Len(); f.Bytes() != bytes || l != length || s != synced {
		t.Fatalf("the file had %d bytes, %d synced, and has %d, %d", length, synced, l, s)
	}
}

// 24.1: keys that do not serve, a nil file, a seed of 64 bytes and of one more, and what of them is told first.
func TestOpenErrors(t *testing.T) {
	most := strings.Repeat("s", 64)
	f := disk.New()
	f.Append("not synced")
	for _, k := range noKeys() {
		for _, seed := range []string{"", most, most + "s", strings.Repeat("s", 1<<20)} {
			refuses(t, k, seed, f, api.ErrArg)
			refuses(t, k, seed, nil, api.ErrArg)
			refuses(t, k, seed, fileWith(t, -1), api.ErrArg)
		}
	}
	for _, seed := range []string{most + "s", strings.Repeat("s", 1<<20)} {
		refuses(t, keyOf(), seed, f, api.ErrLong)
		refuses(t, keyOf(), seed, nil, api.ErrArg)
		refuses(t, keyOf(), seed, fileWith(t, -1), api.ErrLong)
	}
	refuses(t, keyOf(), most, nil, api.ErrArg)
	for _, seed := range []string{"", "s", most} {
		if x, e := node.Open(keyOf(), seed, disk.New()); !x.Up() || e != api.OK {
			t.Errorf("a seed of %d bytes: %v", len(seed), e)
		}
	}
}

// 24.1: keys that serve, with dealers and without, of all tables.
func TestOpenKeys(t *testing.T) {
	for n := 1; n <= 10; n++ {
		for f := range mostFail[n] + 1 {
			for _, k := range keysOf(n, f) {
				k.Dealers = []int{1}
				x, e := node.Open(k, "s", disk.New())
				if e != api.OK || !x.Up() || x.Life() != 1 || x.View() != 0 {
					t.Fatalf("n %d, f %d: %v", n, f, e)
				}
			}
		}
	}
}

// 24.1: a file in which a Life can be written just so, and one in which it can't, also with bytes behind its records, which
// are cut, if it can, and stay, if not.
func TestOpenFull(t *testing.T) {
	for room := -8; room < 0; room++ {
		f := fileWith(t, room)
		refuses(t, keyOf(), "s", f, api.ErrFull)
		f.Append(strings.Repeat("\xff", 8+room))
		refuses(t, keyOf(), "s", f, api.ErrFull)
	}
	for _, tail := range []int{0, 1, 7, 8} {
		f := fileWith(t, 0)
		f.Append(strings.Repeat("\xff", tail))
		x, e := node.Open(keyOf(), "s", f)
		if e != api.OK || !x.Up() || x.Life() != 1 {
			t.Fatalf("Open: %v", e)
		}
		length, synced := f.Len()
		all, end := ledger.Read(f.Bytes())
		if length != disk.MaxFile || synced != length || end != length || all[len(all)-1] != packed(40) {
			t.Errorf("the file has %d bytes, %d synced", length, synced)
		}
		refuses(t, keyOf(), "s", f, api.ErrFull)
	}
}

// 24.1: each time that it is opened is a life, that lasts.
func TestLives(t *testing.T) {
	x := rigOf(t, 4, 1, 2)
	for life := 1; life <= 12; life++ {
		length, synced := x.file.Len()
		if x.x.Life() != life || length != 8*life || synced != length {
			t.Fatalf("life %d: %d, %d bytes, %d synced", life, x.x.Life(), length, synced)
		}
		x.again(0, 0)
	}
	// Its senders' lives are 1024 times that.
	for _, out := range x.x.Tick() {
		if life, number, _ := readFrame(out.Text); life != 13*1024 || number != 1 {
			t.Errorf("node %d is sent %d of life %d", out.To, number, life)
		}
	}
}

// A queue of what the file tells, and records that are none, which are passed over.
func TestOthersArePassedOver(t *testing.T) {
	x := rigOf(t, 4, 1, 2)
	sig := x.sigOf("a")
	code, _ := schnorr.Encode(sig)
	others := []string{
		"", "x", packed(40, ""), packed(40, eight(1)), packed(39), packed(44), packed(1), packed(63, eight(7), "m"), packed(40) + "x",
		packed(41), packed(41, eight(50)), packed(41, eight(50), "m", ""), packed(41, eight(0), "m"), packed(41, eight(1<<40+1), "m"),
		packed(41, "7", "m"), packed(41, "m", eight(50)), packed(41, eight(50), long), packed(41, eight(50)+"x", "m"),
		packed(42), packed(42, ""), packed(42, "7"), packed(42, eight(90), ""), packed(42, eight(1<<40+1)), packed(42, eight(math.MaxInt)),
		packed(42, "\xff"+eight(0)[1:]), packed(42, eight(90)+"x"),
		packed(43), packed(43, eight(1)), packed(43, eight(1), "a"), packed(43, eight(1), "a", ""), packed(43, eight(1), "a", code+"x"),
		packed(43, eight(1), "a", code[1:]), packed(43, eight(1), "a", code, ""), packed(43, eight(0), "a", code), packed(43, "1", "a", code),
		packed(43, eight(1), "a", "\x05"+code[1:]),
	}
	var records []string
	for _, record := range []string{packed(40), acceptOf(1, "a"), acceptOf(2, "b"), spentOf(3), finishOf(2, "b", x.sigOf("b"))} {
		records = append(append(records, others...), record)
	}
	// And a Finish of another message than the one that waits.
	x.file = fileOf(append(append(records, packed(43, eight(1), "b", code)), others...)...)
	x.open()
	if x.x.Life() != 2 {
		t.Errorf("life %d", x.x.Life())
	}
	x.waits(1)
	if x.isDone(request(2, "b")) != x.sigOf("b") {
		t.Error("another signature")
	}
	x.replies()
	x.submits(request(1, "b"), queue.Reject)
	x.tell(1, askOf(0, 1, 9, 70000, "m"))
	x.hasTold(1, offerOf(0, 1, 9, 70000, x.nonce(4)))
	x.submits(request(50, "m"), queue.Accepted)
	x.waits(1, 50)
}

// 24.2: what was accepted waits in its order, however many there were; eight of them fill the row.
func TestOpenQueue(t *testing.T) {
	x := rigOf(t, 4, 1, 2)
	var records []string
	for id := 1; id <= 20; id++ {
		if id > 8 {
			records = append(records, finishOf(21-id+8, "m", x.sigOf("m")))
		}
		records = append(records, acceptOf(21-id, "m"))
	}
	x.file = fileOf(records...)
	x.open()
	x.waits(8, 7, 6, 5, 4, 3, 2, 1)
	for id := 9; id <= 20; id++ {
		x.isDone(request(id, "m"))
	}
	x.submits(request(21, "m"), queue.Busy)
	x.submits(request(8, "m"), queue.Accepted)
	x.submits(request(8, "n"), queue.Reject)
	x.submits(request(9, "n"), queue.Reject)
}

// 24.3: as many nonces are spent as the greatest one of which a Spent tells, whichever stands last.
func TestOpenNonces(t *testing.T) {
	for _, spent := range [][]int{nil, {1}, {2, 1}, {1, 5, 3}, {5, 5}, {0}, {1 << 32}, {1<<40 - 2}} {
		x := rigOf(t, 4, 1, 2)
		var records []string
		greatest := 0
		for _, n := range spent {
			records = append(records, spentOf(n))
			greatest = max(greatest, n)
		}
		x.file = fileOf(records...)
		x.open()
		x.tell(1, askOf(0, 1, 9, 70000, "m"))
		x.hasTold(1, offerOf(0, 1, 9, 70000, x.nonce(greatest+1)))
	}
}

// 24.1: where all nonces are spent, none is offered, and it goes on.
func TestNoNonceIsLeft(t *testing.T) {
	for _, left := range []int{0, 1} {
		x := rigOf(t, 4, 1, 2)
		x.file = fileOf(spentOf(1<<40 - left))
		x.open()
		x.tell(1, askOf(0, 1, 9, 70000, "m"))
		x.tell(1, askOf(0, 1, 9, 70000, "m"))
		x.tick()
		if got := x.told(1); len(got) != left {
			t.Fatalf("%d left: %v", left, got)
		}
		if left == 1 {
			// A share is told with the next one's pair, and there is none.
			_, other := x.issue(1)
			x.tell(1, openOf(0, 1, 9, 70000*16+1, "m", listOf(x.nonce(1<<40), other)))
			x.hasTold(1)
		}
		if len(x.x.Emits()) != 0 || !x.x.Up() {
			t.Error("a share was told")
		}
		x.submits(request(1, "m"), queue.Accepted)
		x.tell(1, beatOf(1))
		x.tell(3, beatOf(1))
		x.ticks(100)
	}
	alone := rigOf(t, 1, 0, 1)
	alone.file = fileOf(spentOf(1 << 40))
	alone.open()
	alone.submits(request(1, "m"), queue.Accepted)
	alone.ticks(100)
	alone.waits(1)
	alone.replies()
}

// R3: what was handed to Open is not kept, but for the file; the seed is.
func TestOpenKeeps(t *testing.T) {
	k := keysOf(1, 0)[0]
	k.Dealers = []int{1}
	x, _ := node.Open(k, "s", disk.New())
	k.Group[0], k.Dealers[0] = api.Point{}, 9
	x.Submit(request(1, "m"))
	if r := x.Replies(); len(r) != 1 || schnorr.Verify(k.Public, "m", r[0].Sig) != api.OK {
		t.Errorf("%v", r)
	}
	k = keyOf()
	group := append([]api.Point(nil), k.Group...)
	node.Open(k, "s", disk.New())
	for i := range group {
		if k.Group[i] != group[i] {
			t.Error("the key was changed")
		}
	}
}
