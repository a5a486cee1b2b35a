package disk_test

import (
	"math"
	"math/rand"
	"strings"
	"testing"

	"wardmote/api"
	"wardmote/disk"
)

// sheet is a file as the document tells it: what is synced, and what is behind.
type sheet struct{ synced, others string }

// crashed is what a crash leaves of it.
func (s sheet) crashed(keep, mask int) sheet {
	out := s.synced + s.others[:keep]
	if mask != 0 && keep < len(s.others) {
		out += string([]byte{s.others[keep] ^ byte(mask)})
	}
	return sheet{synced: out}
}

// 10.2: whatever a crash keeps, and whatever the mask.
func TestCrash(t *testing.T) {
	for _, synced := range []string{"", "a", "abcd"} {
		for _, others := range []string{"", "x", "xyz", "\x00\x00", "\xff\x01\x80"} {
			for keep := range len(others) + 1 {
				for mask := range 256 {
					f := made(t, synced, others)
					tells(t, "Crash", f.Crash(keep, mask), api.OK)
					want := sheet{synced, others}.crashed(keep, mask).synced
					has(t, f, want, len(want))
				}
			}
		}
	}
}

// 10.2: a byte that is wrong, where there is one behind those that were kept, and where there is none.
func TestCrashMask(t *testing.T) {
	for _, c := range []struct {
		keep, mask int
		want       string
	}{
		{0, 0, "ab"}, {0, 1, "ab\x62"}, {0, 255, "ab\x9c"}, {0, 128, "ab\xe3"}, {0, 'c', "ab\x00"},
		{1, 0, "abc"}, {1, 1, "abc\x65"}, {1, 255, "abc\x9b"},
		{2, 0, "abcd"}, {2, 1, "abcd"}, {2, 255, "abcd"},
	} {
		f := made(t, "ab", "cd")
		tells(t, "Crash", f.Crash(c.keep, c.mask), api.OK)
		has(t, f, c.want, len(c.want))
	}
	// What is synced is no byte behind those that were kept.
	f := made(t, "abcd", "")
	tells(t, "Crash", f.Crash(0, 255), api.OK)
	has(t, f, "abcd", 4)
	f = disk.New()
	tells(t, "Crash of nothing", f.Crash(0, 255), api.OK)
	has(t, f, "", 0)
}

// 10.2: what is none to keep, or no mask: it stays as it was.
func TestCrashRefuses(t *testing.T) {
	noMasks := []int{-1, -255, -256, 256, 257, 511, 1 << 32, math.MinInt, math.MaxInt}
	for _, synced := range []string{"", "abcd"} {
		for _, others := range []string{"", "xyz"} {
			f := made(t, synced, others)
			refused := func(keep, mask int) {
				t.Helper()
				tells(t, "Crash", f.Crash(keep, mask), api.ErrArg)
				has(t, f, synced+others, len(synced))
			}
			for _, keep := range []int{-1, -4, math.MinInt, len(others) + 1, len(others) + 4, 1 << 32, math.MaxInt} {
				for _, mask := range append([]int{0, 1, 255}, noMasks...) {
					refused(keep, mask)
				}
			}
			for keep := range len(others) + 1 {
				for _, mask := range noMasks {
					refused(keep, mask)
				}
			}
		}
	}
}

// 10.3: what was synced lasts, however it crashes, and crashes again.
func TestSyncedLasts(t *testing.T) {
	source := rand.New(rand.NewSource(50))
	for range 500 {
		f, synced := disk.New(), ""
		for range 8 {
			others := strings.Repeat("x", source.Intn(4)) + strings.Repeat("y", source.Intn(4))
			tells(t, "Append", f.Append(others), api.OK)
			tells(t, "Crash", f.Crash(source.Intn(len(others)+1), source.Intn(256)), api.OK)
			kept := f.Bytes()
			if !strings.HasPrefix(kept, synced) || len(kept) > len(synced)+len(others) {
				t.Fatalf("of %q, and %q behind, %q is kept", synced, others, kept)
			}
			has(t, f, kept, len(kept))
			synced = kept
		}
	}
}

// 10.3: a crash that keeps all is a sync, whatever the mask.
func TestCrashThatKeepsAll(t *testing.T) {
	for _, others := range []string{"", "c", "cdef"} {
		for mask := range 256 {
			f, other := made(t, "ab", others), made(t, "ab", others)
			tells(t, "Crash", f.Crash(len(others), mask), api.OK)
			tells(t, "Sync", other.Sync(), api.OK)
			for _, file := range []*disk.File{f, other} {
				has(t, file, "ab"+others, 2+len(others))
				tells(t, "Append", file.Append("g"), api.OK)
				has(t, file, "ab"+others+"g", 2+len(others))
			}
		}
	}
}

// 10.1, 10.2, R4, R6: all that may be done, in any order: a file and the sheet that it is stay alike, also behind errors;
// and bytes that were told once stay what they were.
func TestAnyOrder(t *testing.T) {
	source := rand.New(rand.NewSource(51))
	for range 300 {
		f, s := disk.New(), sheet{}
		told, kept := "", ""
		for range 60 {
			s = step(t, source, f, s)
			has(t, f, s.synced+s.others, len(s.synced))
			if told != kept {
				t.Fatalf("what was told as %q is %q", kept, told)
			}
			told, kept = f.Bytes(), strings.Clone(s.synced+s.others)
		}
	}
}

// step does one thing to a file, and tells what becomes of its sheet.
func step(t *testing.T, source *rand.Rand, f *disk.File, s sheet) sheet {
	t.Helper()
	all := s.synced + s.others
	switch source.Intn(8) {
	case 0:
		tells(t, "Sync", f.Sync(), api.OK)
		return sheet{synced: all}
	case 1:
		n := source.Intn(len(all)+5) - 2
		if n < 0 || n > len(all) {
			tells(t, "Cut", f.Cut(n), api.ErrArg)
			return s
		}
		tells(t, "Cut", f.Cut(n), api.OK)
		return sheet{synced: all[:n]}
	case 2:
		keep, mask := source.Intn(len(s.others)+5)-2, source.Intn(260)-2
		if keep < 0 || keep > len(s.others) || mask < 0 || mask > 255 {
			tells(t, "Crash", f.Crash(keep, mask), api.ErrArg)
			return s
		}
		tells(t, "Crash", f.Crash(keep, mask), api.OK)
		return s.crashed(keep, mask)
	default:
		b := make([]byte, source.Intn(12))
		source.Read(b)
		tells(t, "Append", f.Append(string(b)), api.OK)
		return sheet{s.synced, s.others + string(b)}
	}
}
