package parcel_test

import (
	"math/rand"
	"slices"
	"strings"
	"testing"
	"unsafe"

	"wardmote/api"
	"wardmote/parcel"
)

// 9.3: what was packed is unpacked.
func TestPackedIsUnpacked(t *testing.T) {
	source := rand.New(rand.NewSource(40))
	for range 5000 {
		r := drawn(source)
		s, e := parcel.Pack(r.kind, r.items)
		if e != api.OK {
			t.Fatal(e)
		}
		unpacks(t, s, r)
	}
}

// 9.1, 9.3: bytes of records that were bent are others, or none; what is a record has just these bytes.
func TestOneForm(t *testing.T) {
	source := rand.New(rand.NewSource(41))
	count := map[api.Errno]int{}
	for range 20000 {
		s := bent(source, bytesOf(drawn(source)))
		tellsAsRead(t, s)
		kind, items, e := parcel.Unpack(s)
		count[e]++
		if e != api.OK {
			continue
		}
		if again, e := parcel.Pack(kind, items); e != api.OK || again != s {
			t.Fatalf("%.80q is packed as %.80q, %v", s, again, e)
		}
	}
	for _, e := range []api.Errno{api.OK, api.ErrCut, api.ErrForm, api.ErrLong} {
		if count[e] < 100 {
			t.Errorf("%v was told %d times only", e, count[e])
		}
	}
}

// 9.3: no two records have the same bytes.
func TestUnlikeRecords(t *testing.T) {
	from := map[string]int{}
	for i, r := range records {
		s, _ := parcel.Pack(r.kind, r.items)
		if j, ok := from[s]; ok {
			t.Errorf("records %d and %d are packed alike", i, j)
		}
		from[s] = i
	}
}

// 9.3: of numbers, too, eight bytes are one number's, and those of a list are one list's.
func TestOneFormOfNumbers(t *testing.T) {
	source := rand.New(rand.NewSource(42))
	for range 5000 {
		b := make([]byte, 8*source.Intn(5))
		source.Read(b)
		l, e := parcel.ToInts(string(b))
		above := false
		for i := 0; i < len(b); i += 8 {
			above = above || b[i] >= 0x80
		}
		if above != (e == api.ErrForm) {
			t.Fatalf("ToInts(%q): %v, %v", b, l, e)
		}
		if again, _ := parcel.Ints(l); e == api.OK && again != string(b) {
			t.Fatalf("%q is told as %q", b, again)
		}
	}
}

// P1, 9.1, 9.3: whatever bytes there are.
func FuzzUnpack(f *testing.F) {
	for _, r := range records {
		f.Add(bytesOf(r))
	}
	f.Fuzz(func(t *testing.T, s string) {
		tellsAsRead(t, s)
		if kind, items, e := parcel.Unpack(s); e == api.OK {
			packs(t, record{kind, items})
		}
		parcel.ToInt(s)
		if l, e := parcel.ToInts(s); e == api.OK {
			if again, e := parcel.Ints(l); e != api.OK || again != s {
				t.Errorf("%q is told as %q, %v", s, again, e)
			}
		}
	})
}

// R3: what is handed in stays as it was, spare room too.
func TestListsStay(t *testing.T) {
	items, l := []string{"a", "bc", "d", "e"}, []int{5, 6, 7, 8}
	parcel.Pack(1, items[:2])
	parcel.Pack(0, items[:3])
	parcel.Ints(l[:2])
	if !slices.Equal(items, []string{"a", "bc", "d", "e"}) || !slices.Equal(l, []int{5, 6, 7, 8}) {
		t.Errorf("lists were changed: %q, %v", items, l)
	}
}

// R3, R6: answers share no memory with each other, spare room too; the same is told again.
func TestAnswersAreNew(t *testing.T) {
	r, l := record{3, []string{"ab", "", "c"}}, []int{1, 2, 3}
	s, c := bytesOf(r), codes(l)
	for range 3 {
		packs(t, r)
		unpacks(t, s, r)
		_, items, _ := parcel.Unpack(s)
		for i := range items[:cap(items)] {
			items[:cap(items)][i] = "other"
		}
		got, e := parcel.ToInts(c)
		if e != api.OK || !slices.Equal(got, l) {
			t.Errorf("ToInts: %v, %v", got, e)
		}
		for i := range got[:cap(got)] {
			got[:cap(got)][i] = -1
		}
	}
}

// R3: items are no pieces of the text that was unpacked.
func TestItemsAreNew(t *testing.T) {
	s := strings.Clone(bytesOf(record{3, []string{"ab", "", "c", text(100)}}))
	from := uintptr(unsafe.Pointer(unsafe.StringData(s)))
	_, items, _ := parcel.Unpack(s)
	for _, item := range items {
		at := uintptr(unsafe.Pointer(unsafe.StringData(item)))
		if item != "" && at >= from && at < from+uintptr(len(s)) {
			t.Errorf("%q is a piece of the text", item)
		}
	}
}
