package cast_test

import (
	"math/rand"
	"slices"
	"strings"
	"testing"

	"wardmote/api"
	"wardmote/cast"
)

// 16.2: all that n nodes can tell of few texts, each in some orders.
func TestLikePlain(t *testing.T) {
	source := rand.New(rand.NewSource(1))
	tables(func(n, f int) {
		for a := range n + 1 {
			for b := range n - a + 1 {
				for c := range n - a - b + 1 {
					told := slices.Concat(times(a, "a"), times(b, "b"), times(c, "c"), times(n-a-b-c, ""))
					for name := range calls() {
						want, _ := plain(name, n, f, told)
						tells(t, name, n, f, told, want)
						tells(t, name, n, f, shuffled(source, told), want)
					}
				}
			}
		}
	})
}

// 16.2: which node tells what is no matter.
func TestOrder(t *testing.T) {
	for seed := range int64(300) {
		source := rand.New(rand.NewSource(seed))
		n := 1 + source.Intn(10)
		f := source.Intn(mostFail[n] + 1)
		told := make([]string, n)
		for i := range told {
			told[i] = []string{"", "a", "b", "ab", "\x00"}[source.Intn(1+source.Intn(5))]
		}
		for name := range calls() {
			want, _ := plain(name, n, f, told)
			for range 5 {
				tells(t, name, n, f, shuffled(source, told), want)
			}
		}
	}
}

// heard are what one node hears: what those that do as told tell all, and what those that fail tell it.
func heard(source *rand.Rand, honest []string, odd int, texts ...string) []string {
	out := slices.Clone(honest)
	favour := texts[source.Intn(len(texts))]
	for range odd {
		if source.Intn(4) == 0 {
			favour = texts[source.Intn(len(texts))]
		}
		out = append(out, favour)
	}
	return out
}

// 16.3: nodes that do as told have no two texts echoed, whatever at most f others tell each of them.
func TestOneEcho(t *testing.T) {
	met := 0
	tables(func(n, f int) {
		for seed := range int64(400) {
			source := rand.New(rand.NewSource(seed))
			odd := source.Intn(f + 1)
			split := source.Intn(n - odd + 1)
			honest := slices.Concat(times(split, "a"), times(n-odd-split, []string{"b", ""}[source.Intn(2)]))
			first := ""
			for range 6 {
				got, is, e := cast.Echoed(n, f, heard(source, honest, odd, "a", "b", "c", ""))
				if e != api.OK || is != (got != "") || first != "" && is && got != first {
					t.Fatalf("%d of %d, %q: %q and %q, %v", odd, n, honest, first, got, e)
				}
				if is {
					first = got
					met++
				}
			}
		}
	})
	if met < 1000 {
		t.Errorf("echoed %d times alone", met)
	}
}

// 16.4: if one is sure of a mark, all are ready for it, whatever at most f nodes tell each of them; the others tell that mark
// or nothing.
func TestSureIsReady(t *testing.T) {
	met := 0
	tables(func(n, f int) {
		for odd := range f + 1 {
			for tellers := range n - odd + 1 {
				honest := append(times(tellers, "x"), times(n-odd-tellers, "")...)
				mark, is, e := cast.Sure(n, f, append(slices.Clone(honest), times(odd, "x")...))
				if e != api.OK || is != (tellers+odd >= n-f) || is && mark != "x" {
					t.Fatalf("Sure of %q and %d: %q, %v, %v", honest, odd, mark, is, e)
				}
				if !is {
					continue
				}
				met++
				for _, lie := range []string{"", "x", "y"} {
					tells(t, "Ready", n, f, append(slices.Clone(honest), times(odd, lie)...), "x")
				}
				source := rand.New(rand.NewSource(int64(tellers)))
				for range 20 {
					tells(t, "Ready", n, f, shuffled(source, heard(source, honest, odd, "", "x", "y", "z")), "x")
				}
			}
		}
	})
	if met < 30 {
		t.Errorf("sure %d times alone", met)
	}
}

// 16.1 to 16.4: a dealer tells its nodes this or that; who finds a text, finds the one that was echoed.
func TestRounds(t *testing.T) {
	tables(func(n, f int) {
		for split := range n - f + 1 {
			honest := append(times(split, "this"), times(n-f-split, "that")...)
			var marks []string
			for to := range n - f {
				lie := []string{"this", "that", ""}[to%3]
				text, _, e := cast.Echoed(n, f, append(slices.Clone(honest), times(f, lie)...))
				if e != api.OK {
					t.Fatal(e)
				}
				marks = append(marks, cast.Mark(text))
			}
			for _, lie := range []string{"", sum("this"), sum("that"), "x"} {
				told := append(slices.Clone(marks), times(f, lie)...)
				ready, is, e := cast.Ready(n, f, told)
				if want, found := plain("Ready", n, f, told); ready != want || is != found || e != api.OK {
					t.Fatalf("Ready: %q, %v, %v", ready, is, e)
				}
				want := ""
				for _, text := range honest {
					if is && sum(text) == ready {
						want = text
					}
				}
				finds(t, ready, honest, want)
			}
		}
	})
}

// R3: what is handed in is not changed, spare room too.
func TestListsStay(t *testing.T) {
	want := []string{"b", "a", "", "a", "z", "z"}
	room := slices.Clone(want)
	for _, do := range calls() {
		do(4, 1, room[:4])
		do(5, 1, room[:4])
		do(3, 0, room[:3])
	}
	cast.Find(sum("a"), room[:4])
	cast.Find("", room[:4])
	if !slices.Equal(room, want) {
		t.Errorf("changed: %q", room)
	}
}

// P1: whatever is asked, a text that is told was told, and beside an error or a false there is none.
func FuzzCast(f *testing.F) {
	f.Add(4, 1, "a,a,a,b", "a")
	f.Add(7, 2, ",,,x,x,x,y", "x")
	f.Add(0, -1, "", "")
	f.Fuzz(func(t *testing.T, n, most int, texts, text string) {
		told := strings.Split(texts, ",")
		for name, do := range calls() {
			got, is, e := do(n, most, told)
			if cast.Table(n, most) && len(told) == n {
				want, found := plain(name, n, most, told)
				if got != want || is != found || e != api.OK {
					t.Fatalf("%s: %q, %v, %v, not %q", name, got, is, e, want)
				}
			} else if got != "" || is || e != api.ErrArg {
				t.Fatalf("%s: %q, %v, %v", name, got, is, e)
			}
		}
		mark := cast.Mark(text)
		got, is := cast.Find(mark, told)
		if is != (text != "" && slices.Contains(told, text)) || is && got != text || !is && got != "" {
			t.Fatalf("Find of %q in %q: %q, %v", text, told, got, is)
		}
	})
}
