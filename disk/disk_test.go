package disk_test

import (
	"math"
	"strings"
	"testing"

	"wardmote/api"
	"wardmote/disk"
)

// has looks for a file's bytes, and for how many of them are synced.
func has(t *testing.T, f *disk.File, want string, synced int) {
	t.Helper()
	n, m := f.Len()
	if got := f.Bytes(); got != want || n != len(want) || m != synced {
		t.Fatalf("%.80q, Len: %d, %d; not %.80q, %d", got, n, m, want, synced)
	}
}

// tells looks for an error, or for OK.
func tells(t *testing.T, what string, got, want api.Errno) {
	t.Helper()
	if got != want {
		t.Fatalf("%s: %v, not %v", what, got, want)
	}
}

// made is a file of bytes that are synced, and of others behind.
func made(t *testing.T, synced, others string) *disk.File {
	t.Helper()
	f := disk.New()
	tells(t, "Append", f.Append(synced), api.OK)
	tells(t, "Sync", f.Sync(), api.OK)
	tells(t, "Append", f.Append(others), api.OK)
	has(t, f, synced+others, len(synced))
	return f
}

// allBytes are all bytes there are, each once.
func allBytes() string {
	out := make([]byte, 256)
	for i := range out {
		out[i] = byte(i)
	}
	return string(out)
}

// 10.2: the document's example.
func TestExample(t *testing.T) {
	f := disk.New()
	tells(t, "Append", f.Append("ab"), api.OK)
	tells(t, "Sync", f.Sync(), api.OK)
	tells(t, "Append", f.Append("cd"), api.OK)
	tells(t, "Crash", f.Crash(1, 1), api.OK)
	has(t, f, "abc\x65", 4)
}

// 10.1: a new file has no bytes, and nothing of another one.
func TestNew(t *testing.T) {
	has(t, disk.New(), "", 0)
	f, other := disk.New(), disk.New()
	tells(t, "Append", f.Append("ab"), api.OK)
	has(t, other, "", 0)
	tells(t, "Append", other.Append("xyz"), api.OK)
	tells(t, "Sync", other.Sync(), api.OK)
	has(t, f, "ab", 0)
	has(t, other, "xyz", 3)
	has(t, disk.New(), "", 0)
}

// 10.1: what is appended stands behind all others, not synced, till it is.
func TestAppendAndSync(t *testing.T) {
	f, all := disk.New(), ""
	for _, s := range []string{"a", "", "bc", "\x00", "\xff\xfe", "def", "", allBytes(), "é"} {
		synced := len(all)
		tells(t, "Append", f.Append(s), api.OK)
		all += s
		has(t, f, all, synced)
		tells(t, "Append of nothing", f.Append(""), api.OK)
		has(t, f, all, synced)
		for range 2 {
			tells(t, "Sync", f.Sync(), api.OK)
			has(t, f, all, len(all))
		}
	}
	g := disk.New()
	tells(t, "Sync of nothing", g.Sync(), api.OK)
	has(t, g, "", 0)
}

// 10.1: files of as many bytes as there may be, and what would be more by one, or more.
func TestAppendFull(t *testing.T) {
	full := strings.Repeat("a", disk.MaxFile)
	if disk.MaxFile != 1048576 {
		t.Errorf("MaxFile: %d", disk.MaxFile)
	}
	f := disk.New()
	tells(t, "Append of too much", f.Append(full+"a"), api.ErrFull)
	has(t, f, "", 0)
	tells(t, "Append of all", f.Append(full), api.OK)
	has(t, f, full, 0)
	for _, s := range []string{"a", "ab", full, full + full} {
		tells(t, "Append to what is full", f.Append(s), api.ErrFull)
		has(t, f, full, 0)
	}
	tells(t, "Append of nothing", f.Append(""), api.OK)
	has(t, f, full, 0)
	tells(t, "Sync", f.Sync(), api.OK)
	has(t, f, full, len(full))
	tells(t, "Append", f.Append("a"), api.ErrFull)
	has(t, f, full, len(full))
	for _, n := range []int{1, 2, 1000} {
		f = made(t, full[n:], "")
		tells(t, "Append of too much", f.Append(full[:n+1]), api.ErrFull)
		has(t, f, full[n:], len(full)-n)
		tells(t, "Append of the rest", f.Append(full[:n]), api.OK)
		has(t, f, full, len(full)-n)
	}
}

// 10.1: a file that is filled byte by byte, and one that has room again when it was cut.
func TestFilledSlowly(t *testing.T) {
	f := disk.New()
	for i := range disk.MaxFile {
		if e := f.Append(string([]byte{byte(i)})); e != api.OK {
			t.Fatal(i, e)
		}
	}
	full := strings.Repeat(allBytes(), disk.MaxFile/256)
	has(t, f, full, 0)
	tells(t, "Append", f.Append("a"), api.ErrFull)
	tells(t, "Cut", f.Cut(disk.MaxFile-2), api.OK)
	tells(t, "Append", f.Append("abc"), api.ErrFull)
	tells(t, "Append", f.Append("ab"), api.OK)
	has(t, f, full[:disk.MaxFile-2]+"ab", disk.MaxFile-2)
	tells(t, "Crash", f.Crash(0, 255), api.OK)
	has(t, f, full[:disk.MaxFile-2]+"\x9e", disk.MaxFile-1)
	tells(t, "Append", f.Append("ab"), api.ErrFull)
	tells(t, "Append", f.Append("c"), api.OK)
	has(t, f, full[:disk.MaxFile-2]+"\x9ec", disk.MaxFile-1)
}

// 10.1: cut at each place, within what is synced and behind it, a file is its beginning, all synced.
func TestCut(t *testing.T) {
	for _, synced := range []string{"", "a", "abcd", allBytes()} {
		for _, others := range []string{"", "x", "xyz"} {
			all := synced + others
			for n := range len(all) + 1 {
				f := made(t, synced, others)
				tells(t, "Cut", f.Cut(n), api.OK)
				has(t, f, all[:n], n)
				tells(t, "Append", f.Append("more"), api.OK)
				has(t, f, all[:n]+"more", n)
			}
		}
	}
}

// 10.1: cut where there is nothing, it stays as it was.
func TestCutRefuses(t *testing.T) {
	for _, synced := range []string{"", "abcd"} {
		for _, others := range []string{"", "xyz"} {
			f := made(t, synced, others)
			all := synced + others
			for _, n := range []int{-1, -2, math.MinInt, len(all) + 1, len(all) + 2, disk.MaxFile, 1 << 32, math.MaxInt} {
				tells(t, "Cut", f.Cut(n), api.ErrArg)
				has(t, f, all, len(synced))
			}
		}
	}
	// Bytes that were cut off once are none of it any more.
	f := made(t, "abcd", "xyz")
	tells(t, "Cut", f.Cut(2), api.OK)
	tells(t, "Cut", f.Cut(3), api.ErrArg)
	has(t, f, "ab", 2)
}

// 10.1, 10.2: a nil file has no bytes.
func TestNil(t *testing.T) {
	var f *disk.File
	for _, s := range []string{"", "a", strings.Repeat("a", disk.MaxFile+1)} {
		tells(t, "Append", f.Append(s), api.ErrFull)
		has(t, f, "", 0)
	}
	tells(t, "Sync", f.Sync(), api.ErrState)
	for _, n := range []int{-1, 0, 1, math.MinInt, math.MaxInt} {
		tells(t, "Cut", f.Cut(n), api.ErrArg)
		for _, mask := range []int{-1, 0, 1, 255, 256} {
			tells(t, "Crash", f.Crash(n, mask), api.ErrArg)
		}
	}
	has(t, f, "", 0)
}

// 10.1: a file that New did not make has no bytes either.
func TestZeroFile(t *testing.T) {
	var f disk.File
	has(t, &f, "", 0)
	tells(t, "Append", f.Append("ab"), api.OK)
	tells(t, "Crash", f.Crash(1, 3), api.OK)
	has(t, &f, "aa", 2)
}
