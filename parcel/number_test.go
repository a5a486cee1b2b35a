package parcel_test

import (
	"encoding/binary"
	"math"
	"slices"
	"strings"
	"testing"

	"wardmote/api"
	"wardmote/parcel"
)

// numbers are the ends, and those around each power of 2.
func numbers() []int {
	out := []int{0, 1, 2, 3, 258, api.MaxBig, math.MaxInt - 1, math.MaxInt, 0x0102030405060708, 0x7f00ff00ff00ff01}
	for i := 2; i < 63; i++ {
		out = append(out, 1<<i-1, 1<<i, 1<<i+1)
	}
	return out
}

// beyond are what eight bytes may say and no number is: 2^63 and more.
var beyond = []uint64{1 << 63, 1<<63 + 1, 1<<63 + 258, 1<<63 | 1<<62, math.MaxUint64 - 1, math.MaxUint64}

// belowZero are no numbers either.
var belowZero = []int{-1, -2, -255, -256, math.MinInt + 1, math.MinInt}

// code are eight bytes.
func code(n uint64) string { return string(binary.BigEndian.AppendUint64(nil, n)) }

// codes are numbers' bytes.
func codes(l []int) string {
	out := ""
	for _, n := range l {
		out += code(uint64(n))
	}
	return out
}

// rising are the numbers from 0 on, so many.
func rising(count int) []int {
	out := make([]int, count)
	for i := range out {
		out[i] = i
	}
	return out
}

// lists have no number, some, and as many as there may be.
func lists() [][]int {
	return [][]int{
		nil, {}, {0}, {1}, {math.MaxInt}, {1, 2}, {2, 1}, {0, 0}, {math.MaxInt, 0, 258}, numbers(),
		rising(999), rising(1000), slices.Repeat([]int{math.MaxInt}, 1000),
	}
}

func failsInts(t *testing.T, l []int, want api.Errno) {
	t.Helper()
	if s, e := parcel.Ints(l); e != want || s != "" {
		t.Fatalf("Ints of %d: %.80q, %v, not %v", len(l), s, e, want)
	}
}

func failsToInts(t *testing.T, s string) {
	t.Helper()
	if l, e := parcel.ToInts(s); e != api.ErrForm || len(l) != 0 {
		t.Fatalf("ToInts of %d bytes: %v, %v", len(s), l, e)
	}
}

func failsToInt(t *testing.T, s string) {
	t.Helper()
	if n, e := parcel.ToInt(s); e != api.ErrForm || n != 0 {
		t.Fatalf("ToInt(%.80q): %d, %v", s, n, e)
	}
}

// 9.2, 9.3: a number's eight bytes, the highest first, and back.
func TestInt(t *testing.T) {
	for _, n := range numbers() {
		s, e := parcel.Int(n)
		if e != api.OK || s != code(uint64(n)) {
			t.Errorf("Int(%d): %q, %v", n, s, e)
		}
		if back, e := parcel.ToInt(s); e != api.OK || back != n {
			t.Errorf("ToInt(%q): %d, %v", s, back, e)
		}
	}
	if s, _ := parcel.Int(0x0102030405060708); s != "\x01\x02\x03\x04\x05\x06\x07\x08" {
		t.Errorf("Int: %q", s)
	}
}

// 9.2: a number below 0.
func TestIntBelowZero(t *testing.T) {
	for _, n := range belowZero {
		if s, e := parcel.Int(n); e != api.ErrArg || s != "" {
			t.Errorf("Int(%d): %q, %v", n, s, e)
		}
	}
}

// 9.2: bytes that are not eight, or say 2^63 and more.
func TestToIntForm(t *testing.T) {
	for n := range 50 {
		for _, b := range []string{"\x00", "\x01", "\xff"} {
			if n != 8 {
				failsToInt(t, strings.Repeat(b, n))
			}
		}
	}
	failsToInt(t, strings.Repeat("\x00", 8000))
	for _, n := range beyond {
		failsToInt(t, code(n))
	}
	for high := 0x80; high < 0x100; high++ {
		failsToInt(t, string([]byte{byte(high)})+"\x00\x00\x00\x00\x00\x00\x00")
	}
}

// 9.2, 9.3: lists of numbers, and back.
func TestInts(t *testing.T) {
	for _, l := range lists() {
		s, e := parcel.Ints(l)
		if e != api.OK || s != codes(l) {
			t.Errorf("Ints(%v): %.80q, %v", l, s, e)
		}
		if back, e := parcel.ToInts(s); e != api.OK || !slices.Equal(back, l) {
			t.Errorf("ToInts(%.80q): %v, %v", s, back, e)
		}
	}
}

// 9.2: too many numbers, ahead of one that is below 0; and that, wherever it stands.
func TestIntsRefuses(t *testing.T) {
	for _, count := range []int{1001, 1002, 1024, 1256, 66536} {
		failsInts(t, make([]int, count), api.ErrLong)
		failsInts(t, slices.Repeat([]int{-1}, count), api.ErrLong)
	}
	for _, n := range belowZero {
		for _, count := range []int{1, 2, 3, 8, 999, 1000} {
			for _, at := range []int{0, count / 2, count - 1} {
				l := rising(count)
				l[at] = n
				failsInts(t, l, api.ErrArg)
			}
		}
	}
}

// 9.2: bytes that are not eight for each number, or for too many, or of which eight say 2^63 and more.
func TestToIntsForm(t *testing.T) {
	for n := range 8100 {
		s := strings.Repeat("\x00", n)
		if n%8 != 0 || n > 8000 {
			failsToInts(t, s)
		} else if l, e := parcel.ToInts(s); e != api.OK || !slices.Equal(l, make([]int, n/8)) {
			t.Fatalf("ToInts of %d bytes: %v, %v", n, l, e)
		}
	}
	failsToInts(t, strings.Repeat("\x00", 1<<20))
	for _, n := range beyond {
		for _, count := range []int{1, 2, 3, 8, 999, 1000} {
			for _, at := range []int{0, count / 2, count - 1} {
				s := codes(rising(count))
				failsToInts(t, s[:8*at]+code(n)+s[8*at+8:])
			}
		}
	}
}
