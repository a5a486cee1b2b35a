package cast_test

import (
	"slices"
	"strings"
	"testing"

	"wardmote/api"
	"wardmote/cast"
	"wardmote/digest"
)

// 16.2: the document's example.
func TestExample(t *testing.T) {
	tells(t, "Echoed", 4, 1, []string{"a", "a", "a", "b"}, "a")
	tells(t, "Echoed", 4, 1, []string{"a", "a", "b", "b"}, "")
	tells(t, "Ready", 4, 1, []string{"x", "x", "", "y"}, "x")
	tells(t, "Sure", 4, 1, []string{"x", "x", "x", ""}, "x")
}

// 16.1: what is a table, and what is none.
func TestTable(t *testing.T) {
	all := append([]int{-3, -2, -1, 0, 1, 2, 3, 4, 5, 6, 7, 8, 9, 10, 11, 12, 13, 16}, far...)
	for _, n := range all {
		for _, f := range all {
			want := n >= 1 && n <= 10 && f >= 0 && f <= mostFail[n]
			if got := cast.Table(n, f); got != want {
				t.Errorf("Table(%d, %d): %v", n, f, got)
			}
		}
	}
	if !cast.Table(api.MaxNodes, 3) || cast.Table(api.MaxNodes+1, 3) || cast.Table(10, 4) || cast.Table(9, 3) {
		t.Error("Table at its edges")
	}
}

// 16.1: marks are sums, but that of the empty text.
func TestMark(t *testing.T) {
	if got := cast.Mark(""); got != "" {
		t.Errorf("of the empty text: %q", got)
	}
	texts := []string{"a", "b", "\x00", "\xff\xfe", " ", "Käse", digest.Sum(""), digest.Sum("a"), strings.Repeat("x", 1<<20)}
	for _, text := range texts {
		if got := cast.Mark(text); got != sum(text) || got != digest.Sum(text) || len(got) != 32 {
			t.Errorf("Mark(%.20q): %q", text, got)
		}
	}
}

// 16.1: the first text that has a mark, wherever it stands; of the empty mark, none has.
func TestFind(t *testing.T) {
	texts := []string{"", "a", "b", "", "a", "\x00", "c", sum("a")}
	for _, text := range texts {
		finds(t, cast.Mark(text), texts, text)
	}
	finds(t, "", texts, "")
	finds(t, "", nil, "")
	finds(t, "", []string{""}, "")
	finds(t, "", []string{"", ""}, "")
	finds(t, sum(""), texts, "")
	finds(t, sum(""), []string{""}, "")
	finds(t, sum("d"), texts, "")
	finds(t, sum("a"), nil, "")
	finds(t, sum("a"), []string{}, "")
	finds(t, sum("a"), []string{"a", "a"}, "a")
	finds(t, sum("a"), []string{"", "", "b", "a"}, "a")
	for _, none := range []string{"a", "b", "x", sum("a")[:31], sum("a")[1:], sum("a") + "\x00", "\x00", strings.Repeat("\x00", 32)} {
		finds(t, none, texts, "")
	}
	many := append(times(20000, "b"), "a")
	finds(t, sum("a"), many, "a")
	finds(t, sum("c"), many, "")
}

// 16.2: just n - f that told a text, and one fewer: of Echoed and of Sure, whatever the others told.
func TestEnough(t *testing.T) {
	for _, name := range []string{"Echoed", "Sure"} {
		tables(func(n, f int) {
			for _, other := range []string{"", "b", "\x00", "ab"} {
				for count := range n + 1 {
					told := append(times(count, "a"), times(n-count, other)...)
					want := ""
					if count >= n-f {
						want = "a"
					} else if n-count >= n-f {
						want = other
					}
					tells(t, name, n, f, told, want)
					slices.Reverse(told)
					tells(t, name, n, f, told, want)
				}
			}
			apart := []string{"a", "b", "c", "d", "e", "f", "g", "h", "i", "j"}[:n]
			for count := 1; count <= n; count++ {
				told := append(times(count, "z"), apart[count:]...)
				want := ""
				switch {
				case count >= n-f:
					want = "z"
				case n == 1:
					want = "a"
				}
				tells(t, name, n, f, told, want)
			}
		})
	}
}

// 16.2: just f and just f + 1 that told a mark, of Ready, where all others told nothing, or each another mark (which is
// enough for these, if f is 0).
func TestReadyEdges(t *testing.T) {
	tables(func(n, f int) {
		for count := range n + 1 {
			want := ""
			if count >= f+1 {
				want = "x"
			}
			told := append(times(count, "x"), times(n-count, "")...)
			tells(t, "Ready", n, f, told, want)
			slices.Reverse(told)
			tells(t, "Ready", n, f, told, want)
			if f > 0 {
				told = append(times(count, "x"), []string{"a", "b", "c", "d", "e", "f", "g", "h", "i", "j"}[count:n]...)
				tells(t, "Ready", n, f, told, want)
			}
		}
	})
}

// 16.2: two marks of which each was told f + 1 times, or more often: none of them is ready, nor a third one; but one is, if
// the other was told f times.
func TestTwoReady(t *testing.T) {
	tables(func(n, f int) {
		for x := range n + 1 {
			for y := range n - x + 1 {
				told := slices.Concat(times(y, "y"), times(n-x-y, ""), times(x, "x"))
				want := ""
				switch {
				case x > f && y <= f:
					want = "x"
				case y > f && x <= f:
					want = "y"
				}
				tells(t, "Ready", n, f, told, want)
			}
		}
	})
	three := slices.Concat(times(3, "x"), times(3, "y"), times(3, "z"))
	tells(t, "Ready", 9, 2, three, "")
	tells(t, "Ready", 9, 1, three, "")
	three[8] = "x"
	tells(t, "Ready", 9, 2, three, "")
	three[5] = "x"
	tells(t, "Ready", 9, 2, three, "x")
}

// 16.2: empty votes and marks, also where they are the most: they are not told, and keep no other mark from being ready.
func TestEmpty(t *testing.T) {
	tables(func(n, f int) {
		for name := range calls() {
			tells(t, name, n, f, times(n, ""), "")
		}
		for _, name := range []string{"Echoed", "Sure"} {
			if f > 0 {
				tells(t, name, n, f, append(times(n-f, ""), times(f, "a")...), "")
			}
			tells(t, name, n, f, append(times(f, ""), times(n-f, "a")...), "a")
		}
		if n-f-1 > f {
			tells(t, "Ready", n, f, append(times(n-f-1, ""), times(f+1, "a")...), "a")
		}
	})
	tells(t, "Ready", 4, 1, []string{"x", "", "x", ""}, "x")
	tells(t, "Ready", 10, 0, append(times(9, ""), "x"), "x")
	tells(t, "Ready", 7, 2, []string{"", "", "", "", "x", "x", "x"}, "x")
}

// 16.1: no table, and votes or marks of n - 1, of n + 1 texts, and of other numbers of them.
func TestArg(t *testing.T) {
	for name := range calls() {
		tables(func(n, f int) {
			for _, length := range []int{0, n - 1, n + 1, 2 * n, 11, 1000} {
				if length != n {
					fails(t, name, n, f, times(length, "a"))
					fails(t, name, n, f, times(length, ""))
				}
			}
			fails(t, name, n, f, nil)
			for _, none := range append([]int{-1, -2, mostFail[n] + 1, n, n + 1}, far...) {
				fails(t, name, n, none, times(n, "a"))
				fails(t, name, n, none, times(n-1, "a"))
			}
		})
		for _, n := range append([]int{-1, 0, 11, 12, 100}, far...) {
			for _, f := range append([]int{-1, 0, 1, 2, 3, 4}, far...) {
				for _, length := range []int{0, 1, 10, 11, 12, 100} {
					fails(t, name, n, f, times(length, "a"))
				}
			}
		}
	}
}
