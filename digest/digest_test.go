package digest_test

import (
	"crypto/sha256"
	"encoding/hex"
	"math/rand"
	"strings"
	"testing"

	"wardmote/api"
	"wardmote/digest"
)

// drawn is a text of that many bytes, always the same.
func drawn(n int) string {
	text := make([]byte, n)
	rand.New(rand.NewSource(8)).Read(text)
	return string(text)
}

func want(s string) string {
	sum := sha256.Sum256([]byte(s))
	return string(sum[:])
}

// 4.1: what FIPS 180-4 and its examples tell.
func TestSumKnown(t *testing.T) {
	for text, sum := range map[string]string{
		"":    "e3b0c44298fc1c149afbf4c8996fb92427ae41e4649b934ca495991b7852b855",
		"abc": "ba7816bf8f01cfea414140de5dae2223b00361a396177a9cb410ff61f20015ad",
		"abcdbcdecdefdefgefghfghighijhijkijkljklmklmnlmnomnopnopq": "248d6a61d20638b8e5c026930c3e6039a33ce45964ff2167f6ecedd419db06c1",
		strings.Repeat("a", 1000000):                               "cdc76e5c9914fb9281a1c7e284d73e67f1809a48a497200e046d39ccc7112cd0",
	} {
		if got := hex.EncodeToString([]byte(digest.Sum(text))); got != sum {
			t.Errorf("Sum of %d bytes: %s, not %s", len(text), got, sum)
		}
	}
}

// 4.1: texts of every length around the ends of the first blocks, and of some greater ones.
func TestSum(t *testing.T) {
	lengths := []int{511, 512, 513, 4096, 65535, 65536, 100003}
	for n := range 330 {
		lengths = append(lengths, n)
	}
	for _, n := range lengths {
		for _, text := range []string{drawn(n), strings.Repeat("\x00", n), strings.Repeat("\xff", n)} {
			if got := digest.Sum(text); got != want(text) {
				t.Fatalf("Sum of %d bytes: %x, not %x", n, got, want(text))
			}
		}
	}
}

// 4.1: a length whose bits do not fit into 32 of them.
func TestSumOfALongText(t *testing.T) {
	if testing.Short() {
		t.Skip("long")
	}
	piece := drawn(1 << 20)
	h, other := digest.New(), sha256.New()
	for range 513 {
		h.Write(piece)
		other.Write([]byte(piece))
	}
	if got := h.Sum(); got != string(other.Sum(nil)) || h.Len() != 513<<20 {
		t.Errorf("Sum of %d bytes: %x", h.Len(), got)
	}
}

// 4.1: a new hash was written nothing.
func TestNew(t *testing.T) {
	h := digest.New()
	if h.Len() != 0 || h.Sum() != want("") {
		t.Errorf("New: %d, %x", h.Len(), h.Sum())
	}
	if e := h.Write(""); e != api.OK || h.Len() != 0 || h.Sum() != want("") {
		t.Errorf("Write of nothing: %v, %d, %x", e, h.Len(), h.Sum())
	}
}

// 4.1: two hashes have nothing of each other.
func TestHashesStandAlone(t *testing.T) {
	a, b := digest.New(), digest.New()
	a.Write(drawn(100))
	b.Write(drawn(70))
	if a.Sum() != want(drawn(100)) || b.Sum() != want(drawn(70)) || digest.Sum("") != want("") {
		t.Error("one hash changed another")
	}
}

// 4.1, 4.2: pieces of every size; Len behind each.
func TestPieces(t *testing.T) {
	text := drawn(300)
	for size := 1; size <= len(text); size++ {
		h := digest.New()
		for from := 0; from < len(text); from += size {
			to := min(from+size, len(text))
			if e := h.Write(text[from:to]); e != api.OK || h.Len() != to {
				t.Fatalf("Write: %v, Len: %d, not %d", e, h.Len(), to)
			}
		}
		if h.Sum() != want(text) {
			t.Fatalf("in pieces of %d: %x", size, h.Sum())
		}
	}
}

// 4.2: two pieces, cut anywhere, and drawn ones, empty ones among them.
func TestUnlikePieces(t *testing.T) {
	text := drawn(200)
	for cut := range len(text) + 1 {
		h := digest.New()
		h.Write(text[:cut])
		h.Write("")
		h.Write(text[cut:])
		if h.Sum() != want(text) || h.Len() != len(text) {
			t.Fatalf("cut at %d: %x, %d", cut, h.Sum(), h.Len())
		}
	}
	source := rand.New(rand.NewSource(9))
	for range 200 {
		h, text := digest.New(), drawn(source.Intn(1000))
		for rest := text; rest != ""; {
			n := min(source.Intn(150), len(rest))
			h.Write(rest[:n])
			rest = rest[n:]
		}
		if h.Sum() != want(text) {
			t.Fatalf("%d bytes: %x", len(text), h.Sum())
		}
	}
}

// 4.1: a hash goes on behind its sum, which is the same each time it is asked for (R6).
func TestSumGoesOn(t *testing.T) {
	text := drawn(200)
	h := digest.New()
	for n := range len(text) + 1 {
		for range 3 {
			if got := h.Sum(); got != want(text[:n]) || h.Len() != n {
				t.Fatalf("behind %d bytes: %x, %d", n, got, h.Len())
			}
		}
		if n < len(text) {
			h.Write(text[n : n+1])
		}
	}
}

// 4.1: a nil hash.
func TestNilHash(t *testing.T) {
	var h *digest.Hash
	for _, text := range []string{"", "abc", drawn(100)} {
		if e := h.Write(text); e != api.ErrState {
			t.Errorf("Write: %v", e)
		}
		if s, n := h.Sum(), h.Len(); s != "" || n != 0 {
			t.Errorf("Sum: %x, Len: %d", s, n)
		}
	}
}
