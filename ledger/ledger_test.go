package ledger_test

import (
	"math"
	"slices"
	"strings"
	"testing"

	"wardmote/api"
	"wardmote/disk"
	"wardmote/ledger"
)

// 11.2: the document's example.
func TestExample(t *testing.T) {
	f := disk.New()
	appends(t, open(t, f), "a", 0)
	holds(t, f, "\x00\x01\x61\xd7\xfe\x8b\x5c", 0)
	if ledger.MaxRecord != 9000 {
		t.Errorf("MaxRecord: %d", ledger.MaxRecord)
	}
}

// 11.1: a nil file, and one of no byte.
func TestOpenNothing(t *testing.T) {
	if l, e := ledger.Open(nil); l != nil || e != api.ErrArg {
		t.Errorf("Open: %v, %v", l, e)
	}
	f := disk.New()
	has(t, open(t, f), nil, 0)
	holds(t, f, "", 0)
}

// 11.1: what a file tells, whatever of it is synced: opened, all that is told is synced.
func TestOpenWhole(t *testing.T) {
	for _, records := range logs {
		b := logged(records...)
		for _, at := range []int{0, len(b) / 3, len(b)} {
			f := file(t, b[:at], b[at:])
			has(t, open(t, f), records, len(records))
			holds(t, f, b, len(b))
		}
	}
}

// 11.1: files that are torn at each place, and with bytes behind: what they are cut to.
func TestOpenTorn(t *testing.T) {
	b := logged("a", "bc", "", "def")
	for n := range len(b) + 1 {
		for _, rest := range []string{"", "\x00", "\xff\xff\xff", text(50)} {
			for _, synced := range []int{0, n} {
				f := file(t, b[:synced], b[synced:n]+rest)
				want, end := begun(b[:n] + rest)
				l := open(t, f)
				has(t, l, want, len(want))
				holds(t, f, b[:end], end)
				appends(t, l, "more", len(want))
				holds(t, f, b[:end]+sealed(len(want), "more"), end)
				has(t, l, append(want, "more"), len(want))
			}
		}
	}
	f := file(t, text(5000), text(5000))
	has(t, open(t, f), nil, 0)
	holds(t, f, "", 0)
}

// 11.1: the last record's seal is wrong, or a byte of a record ahead: it is cut there.
func TestOpenWrong(t *testing.T) {
	records := []string{"a", "bc", "", "def"}
	b := logged(records...)
	for i := range b {
		bent := []byte(b)
		bent[i] ^= 0x10
		ahead := 0
		for len(logged(records[:ahead+1]...)) <= i {
			ahead++
		}
		f := file(t, string(bent), "")
		has(t, open(t, f), records[:ahead], ahead)
		want := logged(records[:ahead]...)
		holds(t, f, want, len(want))
	}
}

// 11.2: a record stands behind all others, not synced, till it is.
func TestAppendAndSync(t *testing.T) {
	for _, records := range logs {
		if len(records) > 20 {
			records = records[:20]
		}
		f := disk.New()
		l := open(t, f)
		for n, record := range records {
			b := logged(records[:n]...)
			appends(t, l, record, n)
			has(t, l, records[:n+1], n)
			holds(t, f, b+sealed(n, record), len(b))
			for range 2 {
				tells(t, "Sync", l.Sync(), api.OK)
				has(t, l, records[:n+1], n+1)
				holds(t, f, b+sealed(n, record), len(b)+len(record)+6)
			}
		}
	}
}

// 11.2: Len ahead of a sync, behind it, and when records come behind.
func TestLen(t *testing.T) {
	l := open(t, disk.New())
	tells(t, "Sync of nothing", l.Sync(), api.OK)
	has(t, l, nil, 0)
	var all []string
	synced := 0
	for n, record := range []string{"", "a", "", text(9000), "b", "", "c"} {
		appends(t, l, record, n)
		all = append(all, record)
		has(t, l, all, synced)
		if n%3 == 1 {
			tells(t, "Sync", l.Sync(), api.OK)
			synced = n + 1
			has(t, l, all, synced)
		}
	}
}

// 11.2: what is synced is the file's: another one that has the file may sync it.
func TestLenAsksTheFile(t *testing.T) {
	f := disk.New()
	l := open(t, f)
	appends(t, l, "a", 0)
	appends(t, l, "", 1)
	has(t, l, []string{"a", ""}, 0)
	tells(t, "Sync", f.Sync(), api.OK)
	has(t, l, []string{"a", ""}, 2)
	appends(t, l, "b", 2)
	has(t, l, []string{"a", "", "b"}, 2)
	has(t, open(t, f), []string{"a", "", "b"}, 3)
	has(t, l, []string{"a", "", "b"}, 3)
}

// 11.2: records of as many bytes as there may be, and of one more: that is not written.
func TestAppendLong(t *testing.T) {
	f := disk.New()
	l := open(t, f)
	var all []string
	for n, size := range []int{0, 1, 255, 256, 257, 8999, 9000} {
		for _, more := range []int{9001, 9002, 9003, 65536, 65537, 1 << 21} {
			refuses(t, l, text(more), api.ErrLong)
		}
		b := logged(all...)
		holds(t, f, b, 0)
		has(t, l, all, 0)
		appends(t, l, text(size), n)
		all = append(all, text(size))
	}
}

// filled are records whose bytes leave so much room in a file.
func filled(room int) []string {
	out := slices.Repeat([]string{text(9000)}, 116)
	rest := disk.MaxFile - 116*9006 - room - 6
	return append(out, text(rest))
}

// 11.2: a file that has no room for a record more: nothing is written, and it has room for a smaller one.
func TestAppendFull(t *testing.T) {
	for room := range 20 {
		all := filled(room)
		b := logged(all...)
		if len(b) != disk.MaxFile-room {
			t.Fatal(len(b))
		}
		f := file(t, b, "")
		l := open(t, f)
		for _, size := range []int{max(0, room-5), room, 9000} {
			refuses(t, l, text(size), api.ErrFull)
			holds(t, f, b, len(b))
			if n, m := l.Len(); n != len(all) || m != len(all) {
				t.Fatalf("Len: %d, %d", n, m)
			}
		}
		refuses(t, l, text(9001), api.ErrLong)
		holds(t, f, b, len(b))
		if room >= 6 {
			last := text(room - 6)
			appends(t, l, last, len(all))
			holds(t, f, b+sealed(len(all), last), len(b))
			if n, m := l.Len(); n != len(all)+1 || m != len(all) {
				t.Fatalf("Len: %d, %d", n, m)
			}
		}
		refuses(t, l, "", api.ErrFull)
	}
}

// 11.2: Get below 0, of the first, the last, and one more.
func TestGet(t *testing.T) {
	l := open(t, file(t, logged("a", "", "bc"), ""))
	has(t, l, []string{"a", "", "bc"}, 3)
	for _, n := range []int{-1, -2, -3, 3, 4, 1 << 32, 1<<32 + 1, math.MinInt, math.MaxInt} {
		if got, e := l.Get(n); got != "" || e != api.ErrNone {
			t.Errorf("Get(%d): %q, %v", n, got, e)
		}
	}
	if got, e := open(t, disk.New()).Get(0); got != "" || e != api.ErrNone {
		t.Errorf("Get of none: %q, %v", got, e)
	}
}

// 11.2: a nil ledger.
func TestNil(t *testing.T) {
	var l *ledger.Ledger
	for _, record := range []string{"", "a", text(9000)} {
		refuses(t, l, record, api.ErrState)
	}
	refuses(t, l, text(9001), api.ErrLong)
	refuses(t, l, strings.Repeat("a", 1<<20), api.ErrLong)
	tells(t, "Sync", l.Sync(), api.ErrState)
	has(t, l, nil, 0)
	for _, n := range []int{0, math.MinInt, math.MaxInt} {
		if got, e := l.Get(n); got != "" || e != api.ErrNone {
			t.Errorf("Get(%d): %q, %v", n, got, e)
		}
	}
}

// P1: a ledger that Open did not make has no file, and nothing panics.
func TestZeroLedger(t *testing.T) {
	var l ledger.Ledger
	refuses(t, &l, "a", api.ErrFull)
	tells(t, "Sync", l.Sync(), api.ErrState)
	has(t, &l, nil, 0)
}
