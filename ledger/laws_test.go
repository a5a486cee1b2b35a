package ledger_test

import (
	"math/rand"
	"slices"
	"strings"
	"testing"
	"unsafe"

	"wardmote/api"
	"wardmote/disk"
	"wardmote/ledger"
)

var masks = []int{0, 1, 0x10, 0x80, 255}

// wrote is a file to which a ledger wrote records, the first so many of which are synced; and that ledger.
func wrote(t *testing.T, records []string, synced int) (*disk.File, *ledger.Ledger) {
	t.Helper()
	f := disk.New()
	l := open(t, f)
	for n, record := range records {
		if n == synced {
			tells(t, "Sync", l.Sync(), api.OK)
		}
		appends(t, l, record, n)
	}
	if synced == len(records) {
		tells(t, "Sync", l.Sync(), api.OK)
	}
	return f, l
}

// whole is how many of the records are whole in their first n bytes.
func whole(records []string, n int) int {
	count := 0
	for count < len(records) && len(logged(records[:count+1]...)) <= n {
		count++
	}
	return count
}

// eachCrash has a log crash in each way: what is kept of it, and with which mask.
func eachCrash(records []string, do func(synced, keep, mask int)) {
	all := len(logged(records...))
	for synced := range len(records) + 1 {
		at := len(logged(records[:synced]...))
		for keep := range all - at + 1 {
			for _, mask := range masks {
				do(synced, keep, mask)
			}
		}
	}
}

var torn = [][]string{{"a", "bc", "", "def"}, {"", "", ""}, {"a", "a"}, {"x", text(260), ""}}

// 11.3: however a file crashes, what is told behind it is a beginning, with all that was synced: just what is whole. What
// a wrong byte makes of a record is not told.
func TestCrashed(t *testing.T) {
	for _, records := range torn {
		eachCrash(records, func(synced, keep, mask int) {
			f, _ := wrote(t, records, synced)
			tells(t, "Crash", f.Crash(keep, mask), api.OK)
			at := len(logged(records[:synced]...))
			count := whole(records, at+keep)
			if count < synced {
				t.Fatalf("%d are told of %d that were synced", count, synced)
			}
			l := open(t, f)
			has(t, l, records[:count], count)
			b := logged(records[:count]...)
			holds(t, f, b, len(b))
			appends(t, l, "more", count)
			tells(t, "Sync", l.Sync(), api.OK)
			tells(t, "Crash", f.Crash(0, 255), api.OK)
			has(t, open(t, f), append(slices.Clone(records[:count]), "more"), count+1)
		})
	}
}

// 11.2, 11.3: behind a crash the ledger that wrote the records has them still; those of them are synced that are told when
// the file is opened again, and not one whose last byte is wrong.
func TestLenBehindCrash(t *testing.T) {
	for _, records := range torn {
		eachCrash(records, func(synced, keep, mask int) {
			f, l := wrote(t, records, synced)
			has(t, l, records, synced)
			tells(t, "Crash", f.Crash(keep, mask), api.OK)
			at := len(logged(records[:synced]...))
			has(t, l, records, whole(records, at+keep))
			n, _ := open(t, f).Len()
			has(t, l, records, n)
		})
	}
}

// 11.2: what the file's owner wrote over records is none of theirs.
func TestLenOfOtherBytes(t *testing.T) {
	f, l := wrote(t, []string{"a", "b", "c"}, 3)
	tells(t, "Cut", f.Cut(7), api.OK)
	has(t, l, []string{"a", "b", "c"}, 1)
	tells(t, "Append", f.Append(sealed(1, "x")+sealed(2, "c")), api.OK)
	tells(t, "Sync", f.Sync(), api.OK)
	has(t, l, []string{"a", "b", "c"}, 1)
	f, l = wrote(t, []string{"a"}, 1)
	tells(t, "Append", f.Append(sealed(1, "b")), api.OK)
	tells(t, "Sync", f.Sync(), api.OK)
	has(t, l, []string{"a"}, 1)
}

// 11.4: what a ledger wrote is read again by another one, of the same file, of one that has the same bytes, and by Read.
func TestReadAgain(t *testing.T) {
	for _, records := range logs {
		for _, synced := range []int{0, len(records) / 2, len(records)} {
			f, l := wrote(t, records, synced)
			has(t, l, records, synced)
			b := logged(records...)
			reads(t, f.Bytes(), records, len(b))
			has(t, open(t, file(t, "", f.Bytes())), records, len(records))
			has(t, open(t, f), records, len(records))
			holds(t, f, b, len(b))
		}
	}
}

// model is a ledger in its file as the document tells it.
type model struct {
	records []string
	synced  int
}

// 11.1 to 11.4, R4, R6: all that may be done, in any order: a ledger and its model stay alike.
func TestAnyOrder(t *testing.T) {
	source := rand.New(rand.NewSource(61))
	for range 200 {
		f := disk.New()
		l, m := open(t, f), model{}
		for range 40 {
			l, m = step(t, source, f, l, m)
			has(t, l, m.records, m.synced)
			holds(t, f, logged(m.records...), len(logged(m.records[:m.synced]...)))
		}
	}
}

// step does one thing, and tells what becomes of a ledger and of its model.
func step(t *testing.T, source *rand.Rand, f *disk.File, l *ledger.Ledger, m model) (*ledger.Ledger, model) {
	t.Helper()
	switch source.Intn(8) {
	case 0:
		tells(t, "Sync", l.Sync(), api.OK)
		return l, model{m.records, len(m.records)}
	case 1:
		refuses(t, l, text(9001), api.ErrLong)
		return l, m
	case 2:
		n, at := f.Len()
		keep := source.Intn(n - at + 1)
		tells(t, "Crash", f.Crash(keep, masks[source.Intn(len(masks))]), api.OK)
		count := whole(m.records, at+keep)
		return open(t, f), model{m.records[:count:count], count}
	case 3:
		return open(t, f), model{m.records, len(m.records)}
	default:
		record := text(400)[:source.Intn(10)]
		appends(t, l, record, len(m.records))
		return l, model{append(m.records, record), m.synced}
	}
}

// within tells whether a text is a piece of another one's memory.
func within(piece, all string) bool {
	from, at := uintptr(unsafe.Pointer(unsafe.StringData(all))), uintptr(unsafe.Pointer(unsafe.StringData(piece)))
	return piece != "" && at >= from && at < from+uintptr(len(all))
}

// R3: records are no pieces of what was handed in, nor of what was told otherwise.
func TestTextsAreNew(t *testing.T) {
	b := strings.Clone(logged("abc", "defg"))
	records, _ := ledger.Read(b)
	for _, record := range records {
		if within(record, b) {
			t.Errorf("%q is a piece of the bytes", record)
		}
	}
	l := open(t, disk.New())
	record := strings.Clone("a record")
	appends(t, l, record, 0)
	got, _ := l.Get(0)
	again, _ := l.Get(0)
	all := []string{record, got, again, l.Records()[0], l.Records()[0]}
	for i := range all {
		for j := range i {
			if within(all[i], all[j]) {
				t.Errorf("texts %d and %d are the same memory", i, j)
			}
		}
	}
}

// R3: a record is not kept as it was handed in: what becomes of its memory later is nobody's concern.
func TestRecordIsNotKept(t *testing.T) {
	memory := []byte("a record")
	l := open(t, disk.New())
	appends(t, l, unsafe.String(&memory[0], len(memory)), 0)
	b := []byte(logged("abc"))
	read, _ := ledger.Read(unsafe.String(&b[0], len(b)))
	clear(memory)
	clear(b)
	has(t, l, []string{"a record"}, 0)
	if read[0] != "abc" {
		t.Errorf("Read: %q", read)
	}
}

// R3, R6: a list that was told is nobody's else, spare room too; the same is told again.
func TestListsAreNew(t *testing.T) {
	want := []string{"a", "", "bc"}
	b := logged(want...)
	f, l := wrote(t, want, 3)
	for n := range 4 {
		told := l.Records()
		for i := range told[:cap(told)] {
			told[:cap(told)][i] = "other"
		}
		read, _ := ledger.Read(b)
		for i := range read[:cap(read)] {
			read[:cap(read)][i] = "other"
		}
		reads(t, b, []string{"a", "", "bc"}, len(b))
		has(t, l, want, 3)
		appends(t, l, "more", 3+n)
		want = append(want, "more")
		has(t, l, want, 3)
	}
	has(t, open(t, f), want, len(want))
}

// R6: ledgers of two files have nothing in common.
func TestApart(t *testing.T) {
	f, l := wrote(t, []string{"a"}, 1)
	g, m := wrote(t, []string{"x", "y"}, 0)
	appends(t, l, "b", 1)
	appends(t, m, "z", 2)
	tells(t, "Sync", m.Sync(), api.OK)
	has(t, l, []string{"a", "b"}, 1)
	has(t, m, []string{"x", "y", "z"}, 3)
	holds(t, f, logged("a", "b"), 7)
	holds(t, g, logged("x", "y", "z"), 21)
}
