package ledger_test

import (
	"math/rand"
	"slices"
	"testing"

	"wardmote/api"
	"wardmote/ledger"
)

// 11.1: the seals, as another program reckoned them.
func TestSeals(t *testing.T) {
	b := "\x00\x01a\xd7\xfe\x8b\x5c" + "\x00\x00\xcd\x26\x62\x15" + "\x00\x02bc\xb1\xfe\x0e\x32"
	reads(t, b, []string{"a", "", "bc"}, 21)
}

// 11.1: records that are whole: all are told, and how many bytes they have.
func TestReadWhole(t *testing.T) {
	for _, records := range logs {
		b := logged(records...)
		reads(t, b, records, len(b))
	}
}

// 11.1: so many records that their numbers have three bytes.
func TestReadManyRecords(t *testing.T) {
	records := make([]string, 70000)
	b := logged(records...)
	reads(t, b, records, len(b))
	l := open(t, file(t, b, ""))
	appends(t, l, "a", 70000)
	if got, n := ledger.Read(b + sealed(70000, "a")); len(got) != 70001 || n != len(b)+7 {
		t.Errorf("Read: %d records, %d", len(got), n)
	}
	for _, number := range []int{0, 1, 69999, 70001, 70000 % 256, 70000 % 65536} {
		reads(t, b+sealed(number, "a"), records, len(b))
	}
}

// 11.1: bytes that are cut, at each place: what is whole ahead of it is told.
func TestReadCut(t *testing.T) {
	for _, records := range logs {
		b := logged(records...)
		step := 1 + len(b)/3000*7
		for n := 0; n < len(b); n += step {
			want, end := begun(b[:n])
			reads(t, b[:n], want, end)
			if end > n || len(want) >= len(records) || !slices.Equal(want, records[:len(want)]) {
				t.Fatalf("of %d bytes %d records, %d", n, len(want), end)
			}
		}
	}
	b := logged("a", "bc", "")
	for n, want := range []int{0, 0, 0, 0, 0, 0, 0, 7, 7, 7, 7, 7, 7, 7, 7, 15, 15, 15, 15, 15, 15, 21} {
		if _, end := ledger.Read(b[:n]); end != want {
			t.Errorf("Read of %d bytes: %d, not %d", n, end, want)
		}
	}
}

// 11.1: a bit that is wrong, in a length, a record or a seal: only the records ahead of it are told.
func TestReadWrongBit(t *testing.T) {
	for _, records := range [][]string{{"a", "bc", ""}, {"", "", ""}, {"a", "a", "a"}, {"x", text(300), "y"}} {
		b, at := logged(records...), 0
		for number, record := range records {
			end := at + len(record) + 6
			for i := at; i < end; i++ {
				for bit := range 8 {
					bent := []byte(b)
					bent[i] ^= 1 << bit
					reads(t, string(bent), records[:number], at)
				}
			}
			at = end
		}
	}
}

// 11.1: bytes behind what is whole are not told.
func TestReadRest(t *testing.T) {
	for _, records := range logs {
		b := logged(records...)
		for _, rest := range []string{"\x00", "\x00\x00", "\xff", "\x00\x00\x00\x00\x00\x00", "\xff\xff", text(100)} {
			reads(t, b+rest, records, len(b))
		}
	}
}

// 11.1: a record whose number is another one: doubled, swapped, left out, or of another place.
func TestReadOtherNumbers(t *testing.T) {
	a, b, c := sealed(0, "a"), sealed(1, "b"), sealed(2, "c")
	reads(t, a+a, []string{"a"}, 7)
	reads(t, a+b+b, []string{"a", "b"}, 14)
	reads(t, a+b+a, []string{"a", "b"}, 14)
	reads(t, a+c, []string{"a"}, 7)
	reads(t, b+a, nil, 0)
	reads(t, b, nil, 0)
	reads(t, a+c+b, []string{"a"}, 7)
	for _, number := range []int{-1, 1, 2, 255, 256, 1 << 16, 1 << 24, 1 << 32, 1 << 40, 1 << 48, 1 << 56} {
		reads(t, sealed(number, "a"), nil, 0)
		reads(t, sealed(number, "a")+b, nil, 0)
		reads(t, a+sealed(1+number, "b"), []string{"a"}, 7)
	}
}

// 11.1: what has more bytes than a record may have is none, though its seal is right.
func TestReadTooLong(t *testing.T) {
	reads(t, sealed(0, text(9000)), []string{text(9000)}, 9006)
	for _, n := range []int{9001, 9002, 9216, 10000, 32768, 65535} {
		reads(t, sealed(0, text(n)), nil, 0)
		reads(t, sealed(0, "a")+sealed(1, text(n))+sealed(2, "c"), []string{"a"}, 7)
	}
}

// 11.1: bytes of no meaning, and logs that were bent, tell what the document says.
func TestReadAny(t *testing.T) {
	source := rand.New(rand.NewSource(60))
	for range 20000 {
		b := []byte(logged(drawn(source)...))
		for range source.Intn(3) {
			if len(b) > 0 {
				at := source.Intn(len(b))
				b = slices.Concat(b[:at], []byte(text(9)[:source.Intn(3)]), b[min(len(b), at+source.Intn(3)):])
			}
		}
		want, end := begun(string(b))
		reads(t, string(b), want, end)
	}
}

// P1, 11.1, 11.4: whatever bytes a file has: what is told is told the same behind the cut.
func FuzzRead(f *testing.F) {
	for _, records := range logs {
		f.Add(logged(records...))
	}
	f.Fuzz(func(t *testing.T, b string) {
		want, end := begun(b)
		reads(t, b, want, end)
		reads(t, b[:end], want, end)
		if len(b) > 1<<20 {
			return
		}
		d := file(t, "", b)
		l, e := ledger.Open(d)
		tells(t, "Open", e, api.OK)
		has(t, l, want, len(want))
		holds(t, d, b[:end], end)
	})
}
