package ledger_test

import (
	"crypto/sha256"
	"encoding/binary"
	"math/rand"
	"slices"
	"strings"
	"testing"

	"wardmote/api"
	"wardmote/disk"
	"wardmote/ledger"
)

// sealed are the bytes of the record of a number, as the document tells them; also of one that is too long.
func sealed(number int, record string) string {
	out := binary.BigEndian.AppendUint16(nil, uint16(len(record)))
	out = append(out, record...)
	sum := sha256.Sum256(append(binary.BigEndian.AppendUint64(nil, uint64(number)), record...))
	return string(append(out, sum[:4]...))
}

// logged are the bytes of records, numbered from 0 on.
func logged(records ...string) string {
	var out strings.Builder
	for number, record := range records {
		out.WriteString(sealed(number, record))
	}
	return out.String()
}

// begun is the beginning that bytes tell, found the other way round: at each place where a record may end, its bytes are
// made again, and held against those that are there.
func begun(b string) ([]string, int) {
	var out []string
	at := 0
	for {
		if len(b)-at < 2 {
			return out, at
		}
		size := int(binary.BigEndian.Uint16([]byte(b[at : at+2])))
		if size > 9000 || at+2+size > len(b) {
			return out, at
		}
		record := b[at+2 : at+2+size]
		code := sealed(len(out), record)
		if !strings.HasPrefix(b[at:], code) {
			return out, at
		}
		out, at = append(out, record), at+len(code)
	}
}

// text is a text of so many bytes, no two near each other alike.
func text(n int) string {
	b := make([]byte, n)
	for i := range b {
		b[i] = byte(i*7 + i>>8)
	}
	return string(b)
}

// logs are records of no byte, of some, and of as many as there may be; none, one, and more than a byte may number.
var logs = [][]string{
	nil, {""}, {"a"}, {"a", "bc", ""}, {"", "", ""}, {"a", "a", "a"}, {text(256)}, {text(255), text(257), "x"},
	{text(8999)}, {text(9000)}, {"", text(9000), "b"}, {text(9000), text(9000), ""}, slices.Repeat([]string{"ab"}, 300),
	{"\x00", "\xff\xfe", "\x00\x01a", "é"},
}

// drawn are records.
func drawn(source *rand.Rand) []string {
	out := make([]string, source.Intn(6))
	for i := range out {
		out[i] = text(300)[:source.Intn(12)]
		if source.Intn(10) == 0 {
			out[i] = text(300 - source.Intn(60))
		}
	}
	return out
}

// reads looks for what bytes tell.
func reads(t *testing.T, b string, want []string, end int) {
	t.Helper()
	if got, at := ledger.Read(b); !slices.Equal(got, want) || at != end {
		t.Fatalf("Read(%.60q): %.80q, %d; not %.80q, %d", b, got, at, want, end)
	}
}

// file is one of bytes that are synced, and of others behind.
func file(t *testing.T, synced, others string) *disk.File {
	t.Helper()
	f := disk.New()
	tells(t, "file", f.Append(synced), api.OK)
	tells(t, "file", f.Sync(), api.OK)
	tells(t, "file", f.Append(others), api.OK)
	return f
}

// open is a ledger of a file.
func open(t *testing.T, f *disk.File) *ledger.Ledger {
	t.Helper()
	l, e := ledger.Open(f)
	if l == nil || e != api.OK {
		t.Fatalf("Open: %v, %v", l, e)
	}
	return l
}

// tells looks for an error, or for OK.
func tells(t *testing.T, what string, got, want api.Errno) {
	t.Helper()
	if got != want {
		t.Fatalf("%s: %v, not %v", what, got, want)
	}
}

// appends looks for a record's number.
func appends(t *testing.T, l *ledger.Ledger, record string, want int) {
	t.Helper()
	if n, e := l.Append(record); n != want || e != api.OK {
		t.Fatalf("Append: %d, %v, not %d", n, e, want)
	}
}

// refuses looks for what is wrong with a record.
func refuses(t *testing.T, l *ledger.Ledger, record string, want api.Errno) {
	t.Helper()
	if n, e := l.Append(record); n != 0 || e != want {
		t.Fatalf("Append: %d, %v, not %v", n, e, want)
	}
}

// has looks for all that a ledger tells: its records, and how many of them are synced.
func has(t *testing.T, l *ledger.Ledger, want []string, synced int) {
	t.Helper()
	if got := l.Records(); !slices.Equal(got, want) {
		t.Fatalf("Records: %.80q, not %.80q", got, want)
	}
	if n, m := l.Len(); n != len(want) || m != synced {
		t.Fatalf("Len: %d, %d, not %d, %d", n, m, len(want), synced)
	}
	for n, record := range want {
		if got, e := l.Get(n); got != record || e != api.OK {
			t.Fatalf("Get(%d): %.80q, %v, not %.80q", n, got, e, record)
		}
	}
	for _, n := range []int{-1, len(want), len(want) + 1} {
		if got, e := l.Get(n); got != "" || e != api.ErrNone {
			t.Fatalf("Get(%d): %.80q, %v", n, got, e)
		}
	}
}

// holds looks for a file's bytes, and for how many of them are synced.
func holds(t *testing.T, f *disk.File, want string, synced int) {
	t.Helper()
	if _, m := f.Len(); f.Bytes() != want || m != synced {
		t.Fatalf("file: %.80q, %d, not %.80q, %d", f.Bytes(), m, want, synced)
	}
}
