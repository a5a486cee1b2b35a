package domain_test

import (
	"crypto/sha256"
	"encoding/binary"
	"encoding/hex"
	"math"
	"math/big"
	"math/rand"
	"slices"
	"strconv"
	"strings"
	"testing"

	"wardmote/api"
	"wardmote/domain"
	"wardmote/field"
)

// tags are of the shortest and the longest, of bytes that are also lengths, and ones of the program.
var tags = []string{
	"t", "\x00", "\x01", "\x28", "\xff", "tt", "wardmote/challenge", "wardmote/deal",
	strings.Repeat("a", 39), strings.Repeat("a", 40), strings.Repeat("\x00", 40),
}

// noTags have no byte, or more than 40, also as many as are a tag's mod 256.
var noTags = []string{
	"", strings.Repeat("a", 41), strings.Repeat("\x00", 41), strings.Repeat("a", 255),
	strings.Repeat("a", 256), strings.Repeat("a", 257), strings.Repeat("a", 296), strings.Repeat("a", 1<<16+1),
}

// partLists have no part, empty parts, the same text cut elsewhere, and parts that look like lengths.
var partLists = [][]string{
	nil, {""}, {"", ""}, {"", "", ""},
	{"a"}, {"", "a"}, {"a", ""}, {"abc"}, {"a", "bc"}, {"ab", "c"}, {"a", "b", "c"}, {"abc", ""}, {"", "abc"},
	{"c", "ab"}, {"\x00"}, {"\x00\x00\x00\x00"}, {"\x00\x00\x00\x01a"}, {"\x00\x00\x00\x01", "a"},
	{strings.Repeat("x", 255)}, {strings.Repeat("x", 256)}, {strings.Repeat("x", 4096), "y"},
	{strings.Repeat("x", 65535)}, {strings.Repeat("x", 65536)}, slices.Repeat([]string{"z"}, 300),
}

// hashed is what is hashed of a tag and parts.
func hashed(tag string, parts []string) []byte {
	out := append([]byte{byte(len(tag))}, tag...)
	for _, part := range parts {
		out = binary.BigEndian.AppendUint32(out, uint32(len(part)))
		out = append(out, part...)
	}
	return out
}

func wantBytes(tag string, parts []string) string {
	sum := sha256.Sum256(hashed(tag, parts))
	return string(sum[:])
}

func wantScalar(tag string, parts []string) *big.Int {
	high := sha256.Sum256(append([]byte{0}, hashed(tag, parts)...))
	low := sha256.Sum256(append([]byte{1}, hashed(tag, parts)...))
	out := new(big.Int).SetBytes(append(high[:], low[:]...))
	return out.Mod(out, bigOf(field.Scalars().Modulus()))
}

func bigOf(a api.Num) *big.Int {
	out := new(big.Int)
	for i := len(a) - 1; i >= 0; i-- {
		out.Lsh(out, 64)
		out.Or(out, new(big.Int).SetUint64(a[i]))
	}
	return out
}

func answers(t *testing.T, what string, got api.Num, e api.Errno, want *big.Int) {
	t.Helper()
	if e != api.OK || bigOf(got).Cmp(want) != 0 {
		t.Fatalf("%s: %x, %v, not %x", what, bigOf(got), e, want)
	}
}

// fails looks for ErrArg, and for nothing beside it (R4).
func fails(t *testing.T, what string, got api.Num, e api.Errno) {
	t.Helper()
	if e != api.ErrArg || got != (api.Num{}) {
		t.Errorf("%s: %x, %v, not %v", what, got, e, api.ErrArg)
	}
}

// 5.1, 5.2: what was reckoned by other programs.
func TestKnown(t *testing.T) {
	s, e := domain.Bytes("t", []string{"a"})
	if hex.EncodeToString([]byte(s)) != "7148a0c80d400dede4a3d04bd7b9b2fef8419c8af0160b0f2570bb591cc7e961" || e != api.OK {
		t.Errorf("Bytes: %x, %v", s, e)
	}
	known := func(text string) *big.Int {
		n, _ := new(big.Int).SetString(text, 16)
		return n
	}
	a, e := domain.Scalar("t", []string{"a"})
	answers(t, "Scalar", a, e, known("6e25162184542742d17e5884c0dfef19de52c75d9f120a141b7939dcf70eebd8"))
	a, e = domain.Draw("seed", "wardmote/deal", 1<<40)
	answers(t, "Draw", a, e, known("3240f21f71ae876d53c084f89a0793a5f17df6dd839742cd01f8b131301bfdf5"))
	a, e = domain.Draw("", "wardmote/deal", 0)
	answers(t, "Draw", a, e, known("f7f4b954cf4f31f99f53e2719ead213898f98f549f6b26c2131d1fc3997521df"))
}

// 5.1: bytes and scalars of all kinds of tags and parts.
func TestBytesAndScalar(t *testing.T) {
	for _, tag := range tags {
		for _, parts := range partLists {
			if s, e := domain.Bytes(tag, parts); s != wantBytes(tag, parts) || e != api.OK {
				t.Fatalf("Bytes(%q, %d parts): %x, %v", tag, len(parts), s, e)
			}
			a, e := domain.Scalar(tag, parts)
			answers(t, "Scalar", a, e, wantScalar(tag, parts))
		}
	}
}

// 5.1: tags of every length, and drawn parts.
func TestBytesAndScalarDrawn(t *testing.T) {
	source := rand.New(rand.NewSource(10))
	drawn := func(n int) string {
		text := make([]byte, n)
		source.Read(text)
		return string(text)
	}
	for n := 1; n <= 40; n++ {
		tag := drawn(n)
		var parts []string
		for range source.Intn(6) {
			parts = append(parts, drawn(source.Intn(200)))
		}
		if s, e := domain.Bytes(tag, parts); s != wantBytes(tag, parts) || e != api.OK {
			t.Fatalf("Bytes(%q, %q): %x, %v", tag, parts, s, e)
		}
		a, e := domain.Scalar(tag, parts)
		answers(t, "Scalar", a, e, wantScalar(tag, parts))
	}
}

// 5.1: a part whose length needs all four bytes.
func TestLongPart(t *testing.T) {
	parts := []string{strings.Repeat("long", 1<<22) + "er", "b"}
	if s, e := domain.Bytes("t", parts); s != wantBytes("t", parts) || e != api.OK {
		t.Errorf("Bytes: %x, %v", s, e)
	}
	a, e := domain.Scalar("t", parts)
	answers(t, "Scalar", a, e, wantScalar("t", parts))
}

// 5.1, 5.2: what is no tag, whatever else is handed in.
func TestNoTag(t *testing.T) {
	for _, tag := range noTags {
		for _, parts := range [][]string{nil, {}, {""}, {"a", "b"}} {
			if s, e := domain.Bytes(tag, parts); s != "" || e != api.ErrArg {
				t.Errorf("Bytes of a tag of %d bytes: %x, %v", len(tag), s, e)
			}
			a, e := domain.Scalar(tag, parts)
			fails(t, "Scalar", a, e)
		}
		for _, n := range []int{-1, 0, 7, api.MaxBig, api.MaxBig + 1} {
			a, e := domain.Draw("seed", tag, n)
			fails(t, "Draw", a, e)
		}
	}
}

// 5.2: numbers from 0 to MaxBig; a seed is any text.
func TestDraw(t *testing.T) {
	seeds := []string{"", "s", "seed", "\x00", strings.Repeat("s", 41), strings.Repeat("s", 1000)}
	numbers := []int{0, 1, 2, 7, 255, 256, 65535, 65536, math.MaxInt32, 1 << 32, 1<<32 + 1, 0x0102030405, 1<<40 - 1, api.MaxBig}
	for _, seed := range seeds {
		for _, label := range tags {
			for _, n := range numbers {
				text := string(binary.BigEndian.AppendUint64(nil, uint64(n)))
				a, e := domain.Draw(seed, label, n)
				answers(t, "Draw", a, e, wantScalar(label, []string{seed, text}))
				b, e := domain.Scalar(label, []string{seed, text})
				answers(t, "Scalar", b, e, bigOf(a))
			}
		}
	}
}

// 5.2: numbers below 0 and above MaxBig.
func TestDrawRefuses(t *testing.T) {
	for _, n := range []int{-1, -2, math.MinInt, math.MinInt + 1, -api.MaxBig, api.MaxBig + 1, 2 * api.MaxBig, math.MaxInt} {
		for _, label := range []string{"t", "", strings.Repeat("a", 40)} {
			a, e := domain.Draw("seed", label, n)
			fails(t, "Draw", a, e)
		}
	}
}

// 5.3: of unlike tags and lists of parts all is unlike, the two ends of bytes and scalars too.
func TestToldApart(t *testing.T) {
	seen := map[string]string{}
	tell := func(what, got string) {
		if before, ok := seen[got]; ok {
			t.Fatalf("%s is told as %s", what, before)
		}
		seen[got] = what
	}
	for _, tag := range tags {
		for i, parts := range partLists {
			name := strconv.Quote(tag) + ", parts " + strconv.Itoa(i)
			s, _ := domain.Bytes(tag, parts)
			tell("Bytes of "+name, s)
			a, _ := domain.Scalar(tag, parts)
			tell("Scalar of "+name, string(bigOf(a).FillBytes(make([]byte, 32))))
		}
	}
}

// 5.3: where a tag ends and the parts begin, and which of two texts is the seed, is told.
func TestToldApartAcross(t *testing.T) {
	for _, pair := range [][2][]string{
		{{"ab", "c"}, {"a", "bc"}},
		{{"t", "a", "b"}, {"t", "b", "a"}},
		{{"t", "a", "b"}, {"t", "a\x00\x00\x00\x01b"}},
		{{"t", "", "a"}, {"t", "a", ""}},
		{{"t\x00\x00\x00\x01a"}, {"t", "a"}},
		{{"t", "a"}, {"t", "a", ""}},
		{{"t"}, {"t", ""}},
	} {
		first, e := domain.Bytes(pair[0][0], pair[0][1:])
		second, f := domain.Bytes(pair[1][0], pair[1][1:])
		if first == second || e != api.OK || f != api.OK {
			t.Errorf("%q and %q: %x, %x", pair[0], pair[1], first, second)
		}
	}
}

// 5.2, 5.3: seeds, labels and numbers are told apart.
func TestDrawsToldApart(t *testing.T) {
	seen := map[api.Num]bool{}
	for _, seed := range []string{"", "a", "b", "ab"} {
		for _, label := range []string{"a", "b", "ab", "wardmote/deal"} {
			for _, n := range []int{0, 1, 2, 256, 1 << 32, api.MaxBig} {
				a, e := domain.Draw(seed, label, n)
				if e != api.OK || a == (api.Num{}) || seen[a] {
					t.Fatalf("Draw(%q, %q, %d): %x, %v", seed, label, n, a, e)
				}
				seen[a] = true
			}
		}
	}
}

// R2: no parts are nil or empty.
func TestNoParts(t *testing.T) {
	first, _ := domain.Bytes("t", nil)
	second, e := domain.Bytes("t", []string{})
	if first != second || e != api.OK {
		t.Errorf("Bytes: %x, %x, %v", first, second, e)
	}
	a, _ := domain.Scalar("t", nil)
	b, e := domain.Scalar("t", []string{})
	if a != b || e != api.OK {
		t.Errorf("Scalar: %x, %x, %v", a, b, e)
	}
}

// R3, R6: parts stay as they were, spare room too, and the same is told each time.
func TestPartsStay(t *testing.T) {
	parts := []string{"a", "b", "c", "d"}
	for range 3 {
		s, e := domain.Bytes("t", parts[:2])
		if s != wantBytes("t", []string{"a", "b"}) || e != api.OK {
			t.Errorf("Bytes: %x, %v", s, e)
		}
		a, e := domain.Scalar("t", parts[:2])
		answers(t, "Scalar", a, e, wantScalar("t", []string{"a", "b"}))
	}
	if !slices.Equal(parts, []string{"a", "b", "c", "d"}) {
		t.Errorf("the parts were changed: %q", parts)
	}
}
