package parcel_test

import (
	"bytes"
	"encoding/binary"
	"math/rand"
	"slices"
	"strings"
	"testing"

	"wardmote/api"
	"wardmote/parcel"
)

// What a record's bytes are, and what bytes tell, written by encoding/binary and read by bytes.Reader.

// record is a kind and items.
type record struct {
	kind  int
	items []string
}

// text is that many bytes.
func text(n int) string { return strings.Repeat("a", n) }

// records have the least and the greatest kind; no item, empty ones, ones whose lengths have a high byte, as many and as
// long ones as there may be, items that look like lengths or like records, and as many bytes as there may be.
var records = []record{
	{1, nil}, {63, nil}, {1, []string{""}}, {2, []string{"", "", ""}}, {3, []string{"ab", ""}}, {3, []string{"", "ab"}},
	{4, []string{"a", "bc"}}, {4, []string{"ab", "c"}}, {4, []string{"abc"}}, {5, []string{"\x00"}},
	{5, []string{"\x00\x00"}}, {6, []string{"\x00\x01a", "\xff\xff"}}, {7, []string{"\x03\x02\x00\x02ab\x00\x00"}},
	{8, []string{text(255)}}, {8, []string{text(256)}}, {8, []string{text(257), "b"}}, {9, []string{text(7999)}},
	{9, []string{text(8000)}}, {9, []string{"", text(8000), text(8000)}}, {62, slices.Repeat([]string{""}, 39)},
	{63, slices.Repeat([]string{""}, 40)}, {63, slices.Repeat([]string{"\xff"}, 40)},
	{63, slices.Repeat([]string{text(497)}, 40)}, {1, []string{text(8000), text(8000), text(3992)}},
	{63, append(slices.Repeat([]string{text(497)}, 39), text(535))},
}

// bytesOf are a record's bytes, whether it is one or not.
func bytesOf(r record) string {
	out := []byte{byte(r.kind), byte(len(r.items))}
	for _, item := range r.items {
		out = binary.BigEndian.AppendUint16(out, uint16(len(item)))
		out = append(out, item...)
	}
	return string(out)
}

// read is the record that bytes are, as the document tells it.
func read(s string) (record, api.Errno) {
	if len(s) > 20000 {
		return record{}, api.ErrLong
	}
	in := bytes.NewReader([]byte(s))
	var head struct{ Kind, Count uint8 }
	if binary.Read(in, binary.BigEndian, &head) != nil {
		return record{}, api.ErrCut
	}
	if head.Kind == 0 || head.Kind > 63 || head.Count > 40 {
		return record{}, api.ErrForm
	}
	out := record{kind: int(head.Kind)}
	for range head.Count {
		var size uint16
		if binary.Read(in, binary.BigEndian, &size) != nil {
			return record{}, api.ErrCut
		}
		if size > 8000 {
			return record{}, api.ErrLong
		}
		item := make([]byte, size)
		if binary.Read(in, binary.BigEndian, item) != nil {
			return record{}, api.ErrCut
		}
		out.items = append(out.items, string(item))
	}
	if in.Len() > 0 {
		return record{}, api.ErrForm
	}
	return out, api.OK
}

// drawn is a record with items that are short, mostly.
func drawn(source *rand.Rand) record {
	out := record{kind: 1 + source.Intn(63)}
	for range source.Intn(6) {
		item := make([]byte, source.Intn(1+source.Intn(300)))
		source.Read(item)
		out.items = append(out.items, string(item))
	}
	return out
}

// bent is a text with a byte that is changed, taken out or put in, or two.
func bent(source *rand.Rand, s string) string {
	b := []byte(s)
	for range 1 + source.Intn(2) {
		at := source.Intn(min(len(b), 8) + 1)
		switch source.Intn(3) {
		case 0:
			b = slices.Insert(b, at, byte(source.Intn(256)))
		case 1:
			b = slices.Delete(b, at, min(at+1, len(b)))
		default:
			b = append(b, 0)
			b[at] ^= byte(1 << source.Intn(8))
			b = b[:len(b)-1]
		}
	}
	return string(b)
}

// packs looks for the bytes of a record.
func packs(t *testing.T, r record) {
	t.Helper()
	got, e := parcel.Pack(r.kind, r.items)
	if e != api.OK || got != bytesOf(r) {
		t.Fatalf("Pack of %d, %.80q: %.80q, %v", r.kind, r.items, got, e)
	}
}

// unpacks looks for a record.
func unpacks(t *testing.T, s string, want record) {
	t.Helper()
	kind, items, e := parcel.Unpack(s)
	if e != api.OK || kind != want.kind || !slices.Equal(items, want.items) {
		t.Fatalf("Unpack(%.80q): %d, %.80q, %v, not %d, %.80q", s, kind, items, e, want.kind, want.items)
	}
}

// failsPack looks for an error, and for nothing beside it (R4).
func failsPack(t *testing.T, r record, want api.Errno) {
	t.Helper()
	if got, e := parcel.Pack(r.kind, r.items); e != want || got != "" {
		t.Fatalf("Pack of %d, %.80q: %.80q, %v, not %v", r.kind, r.items, got, e, want)
	}
}

// failsUnpack looks for an error, and for nothing beside it (R4).
func failsUnpack(t *testing.T, s string, want api.Errno) {
	t.Helper()
	if kind, items, e := parcel.Unpack(s); e != want || kind != 0 || len(items) != 0 {
		t.Fatalf("Unpack(%.80q): %d, %.80q, %v, not %v", s, kind, items, e, want)
	}
}

// tellsAsRead looks for what the document tells of bytes, whatever these are.
func tellsAsRead(t *testing.T, s string) {
	t.Helper()
	if want, e := read(s); e != api.OK {
		failsUnpack(t, s, e)
	} else {
		unpacks(t, s, want)
	}
}
