package parcel_test

import (
	"math"
	"slices"
	"testing"

	"wardmote/api"
	"wardmote/parcel"
)

// noKinds are no kinds, also such as are one mod 256 or mod 2^32.
var noKinds = []int{0, -1, 64, 65, 127, 128, 255, 256, 257, 319, -255, 1<<32 + 1, math.MaxInt, math.MinInt}

// tooMuch are items of which one is too long, or that are too many, or have too many bytes in all.
var tooMuch = [][]string{
	{text(8001)}, {"", text(8001)}, {text(8001), ""}, {text(65535)}, {text(65536)}, {text(65537)}, {text(1 << 20)},
	slices.Repeat([]string{""}, 41), slices.Repeat([]string{""}, 255), slices.Repeat([]string{""}, 256),
	slices.Repeat([]string{""}, 257), slices.Repeat([]string{""}, 296), slices.Repeat([]string{"a"}, 100000),
	{text(8000), text(8000), text(3993)}, {text(8000), text(8000), text(8000)},
	append(slices.Repeat([]string{text(497)}, 39), text(536)), slices.Repeat([]string{text(8000)}, 40),
	{text(8000), text(8000), text(3991), ""},
}

// 9.1: the document's example, and what its limits are.
func TestExample(t *testing.T) {
	got, e := parcel.Pack(3, []string{"ab", ""})
	if e != api.OK || got != "\x03\x02\x00\x02\x61\x62\x00\x00" {
		t.Errorf("Pack: %q, %v", got, e)
	}
	unpacks(t, got, record{3, []string{"ab", ""}})
	if parcel.MaxItems != 40 || parcel.MaxBytes != 20000 {
		t.Errorf("limits: %d, %d", parcel.MaxItems, parcel.MaxBytes)
	}
}

// 9.1: records of each kind, and at the ends.
func TestPack(t *testing.T) {
	for _, r := range records {
		packs(t, r)
		unpacks(t, bytesOf(r), r)
	}
	for kind := 1; kind <= 63; kind++ {
		r := record{kind, []string{"x", "", "yz"}}
		packs(t, r)
		unpacks(t, bytesOf(r), r)
	}
	packs(t, record{1, []string{}})
}

// 9.1: records whose bytes are as many as there may be are among those above; and what has one more is not.
func TestRecordsAreAtTheEnd(t *testing.T) {
	full, more := 0, 0
	for _, r := range records {
		if len(bytesOf(r)) == parcel.MaxBytes {
			full++
		}
	}
	for _, items := range tooMuch {
		if len(bytesOf(record{1, items})) == parcel.MaxBytes+1 {
			more++
		}
	}
	if full != 2 || more != 3 {
		t.Errorf("%d are full, %d have one byte more", full, more)
	}
}

// 9.1: what is no kind, ahead of items that are too much.
func TestPackKind(t *testing.T) {
	for _, kind := range noKinds {
		failsPack(t, record{kind, nil}, api.ErrArg)
		failsPack(t, record{kind, []string{"a"}}, api.ErrArg)
		for _, items := range tooMuch {
			failsPack(t, record{kind, items}, api.ErrArg)
		}
	}
}

// 9.1: too many items, one that is too long, wherever it stands, or too many bytes.
func TestPackLong(t *testing.T) {
	for _, items := range tooMuch {
		failsPack(t, record{1, items}, api.ErrLong)
		failsPack(t, record{63, items}, api.ErrLong)
	}
	for at := range 40 {
		items := make([]string, 40)
		items[at] = text(8000)
		packs(t, record{1, items})
		items[at] = text(8001)
		failsPack(t, record{1, items}, api.ErrLong)
	}
}

// 9.1: texts of no byte and of one; and of two, of all of these.
func TestUnpackHead(t *testing.T) {
	failsUnpack(t, "", api.ErrCut)
	for a := range 256 {
		failsUnpack(t, string([]byte{byte(a)}), api.ErrCut)
		for b := range 256 {
			s := string([]byte{byte(a), byte(b)})
			switch {
			case a < 1 || a > 63 || b > 40:
				failsUnpack(t, s, api.ErrForm)
			case b > 0:
				failsUnpack(t, s, api.ErrCut)
			default:
				unpacks(t, s, record{kind: a})
			}
		}
	}
}

// 9.1: what is no kind, or too many items, ahead of what is wrong with items; and too many bytes ahead of all.
func TestUnpackFirst(t *testing.T) {
	for _, head := range []string{"\x00\x00", "\x00\x01", "\x40\x01", "\xff\xff", "\x01\x29", "\x3f\x29", "\x01\xff"} {
		for _, rest := range []string{"", "\x00", "\x1f\x41", "\xff\xff", "\x00\x01ab", text(19998)} {
			failsUnpack(t, head+rest, api.ErrForm)
		}
		failsUnpack(t, head+text(19999), api.ErrLong)
	}
	for _, n := range []int{20001, 20002, 65536, 65538, 1 << 20} {
		failsUnpack(t, text(n), api.ErrLong)
	}
	failsUnpack(t, bytesOf(record{1, []string{text(8000), text(8000), text(3992)}})+"a", api.ErrLong)
	failsUnpack(t, bytesOf(record{1, []string{text(8000), text(8000), text(3993)}}), api.ErrLong)
	failsUnpack(t, bytesOf(record{1, []string{text(8000), text(8000), text(3991)}})+"a", api.ErrForm)
}

// 9.1: texts that are cut, each at each place, and that have bytes left.
func TestUnpackCut(t *testing.T) {
	for _, r := range records {
		s := bytesOf(r)
		for n := range len(s) {
			failsUnpack(t, s[:n], api.ErrCut)
		}
		for _, more := range []string{"\x00", "\x00\x00", "a", "\xff\xff", s} {
			want := api.ErrForm
			if len(s)+len(more) > parcel.MaxBytes {
				want = api.ErrLong
			}
			failsUnpack(t, s+more, want)
		}
	}
}

// 9.1: an item that says more bytes than there are, or than it may have: its length is asked ahead of its bytes.
func TestUnpackItem(t *testing.T) {
	for at := range 40 {
		ahead := string([]byte{7, byte(at + 1)}) + bytesOf(record{items: slices.Repeat([]string{"x"}, at)})[2:]
		for _, size := range []int{1, 2, 255, 256, 7999, 8000, 8001, 8002, 8191, 8192, 32768, 65535} {
			sized := ahead + string([]byte{byte(size >> 8), byte(size)})
			for _, n := range []int{0, 1, size - 1, size, size + 1} {
				want := api.ErrForm
				switch {
				case len(sized)+n > parcel.MaxBytes || size > 8000:
					want = api.ErrLong
				case n < size:
					want = api.ErrCut
				}
				if want != api.ErrForm || n > size {
					failsUnpack(t, sized+text(n), want)
				} else {
					unpacks(t, sized+text(n), record{7, append(slices.Repeat([]string{"x"}, at), text(n))})
				}
			}
		}
	}
}

// 9.1: of several items that are wrong the first one is told.
func TestUnpackFirstItem(t *testing.T) {
	failsUnpack(t, "\x01\x02\x00\x05ab\x1f\x41", api.ErrCut)
	failsUnpack(t, "\x01\x02\x1f\x41\x00", api.ErrLong)
	failsUnpack(t, "\x01\x03\x00\x01a\x1f\x41", api.ErrLong)
	failsUnpack(t, "\x01\x03\x00\x01a\x1f", api.ErrCut)
	failsUnpack(t, "\x01\x02\x00\x02a\x1f\x41", api.ErrCut)
}
