package cast_test

import (
	"crypto/sha256"
	"math"
	"math/rand"
	"testing"

	"wardmote/api"
	"wardmote/cast"
)

// mostFail is by n the greatest f with 3 f < n.
var mostFail = [...]int{1: 0, 2: 0, 3: 0, 4: 1, 5: 1, 6: 1, 7: 2, 8: 2, 9: 2, 10: 3}

// far are numbers that are neither of a table, also such as are one mod 2^32, or times 3.
var far = []int{
	math.MinInt, math.MinInt + 1, -1 << 32, 4 - 1<<32, 1 << 32, 1<<32 + 1, 1<<32 + 4, 1<<62 + 1, math.MaxInt / 3, math.MaxInt/3 + 1,
	math.MaxInt/3*2 + 2, math.MaxInt - 1, math.MaxInt,
}

// call is one that tells of n texts which one enough told.
type call func(n, f int, told []string) (string, bool, api.Errno)

// calls are all of these, by their names.
func calls() map[string]call {
	return map[string]call{"Echoed": cast.Echoed, "Ready": cast.Ready, "Sure": cast.Sure}
}

// plain is what a call answers: each text is held against all others.
func plain(name string, n, f int, told []string) (string, bool) {
	text, found := "", 0
	for i, candidate := range told {
		if candidate == "" || !isFirst(told, i) {
			continue
		}
		times := 0
		for _, other := range told {
			if other == candidate {
				times++
			}
		}
		if name == "Ready" && times > f || name != "Ready" && times+f >= n {
			text = candidate
			found++
		}
	}
	if found != 1 {
		return "", false
	}
	return text, true
}

// isFirst tells whether a text was not told ahead of its place.
func isFirst(told []string, place int) bool {
	for _, other := range told[:place] {
		if other == told[place] {
			return false
		}
	}
	return true
}

// tables goes through all tables.
func tables(do func(n, f int)) {
	for n := 1; n <= 10; n++ {
		for f := range mostFail[n] + 1 {
			do(n, f)
		}
	}
}

// tells looks for the text that a call answers; the empty one: for none.
func tells(t *testing.T, name string, n, f int, told []string, want string) {
	t.Helper()
	if got, is, e := calls()[name](n, f, told); got != want || is != (want != "") || e != api.OK {
		t.Fatalf("%s(%d, %d, %q): %q, %v, %v, not %q", name, n, f, told, got, is, e, want)
	}
}

// fails looks for what is wrong with a call.
func fails(t *testing.T, name string, n, f int, told []string) {
	t.Helper()
	if got, is, e := calls()[name](n, f, told); got != "" || is || e != api.ErrArg {
		t.Fatalf("%s(%d, %d, %q): %q, %v, %v", name, n, f, told, got, is, e)
	}
}

// finds looks for the text that has a mark; the empty one: for none.
func finds(t *testing.T, mark string, texts []string, want string) {
	t.Helper()
	if got, is := cast.Find(mark, texts); got != want || is != (want != "") {
		t.Fatalf("Find(%q, %q): %q, %v, not %q", mark, texts, got, is, want)
	}
}

// sum is a text's SHA-256, by the library.
func sum(s string) string {
	bytes := sha256.Sum256([]byte(s))
	return string(bytes[:])
}

// times is a text, so often.
func times(n int, s string) []string {
	out := make([]string, n)
	for i := range out {
		out[i] = s
	}
	return out
}

// shuffled are texts in another order.
func shuffled(source *rand.Rand, texts []string) []string {
	out := make([]string, len(texts))
	for i, at := range source.Perm(len(texts)) {
		out[at] = texts[i]
	}
	return out
}
