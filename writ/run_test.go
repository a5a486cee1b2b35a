package writ_test

import (
	"fmt"
	"math/rand"
	"strconv"
	"strings"
	"testing"

	"wardmote/api"
	"wardmote/bench"
	"wardmote/oracle"
	"wardmote/queue"
	"wardmote/schnorr"
	"wardmote/writ"
)

// played is what a bench's nodes see of a script's choices.
func played(t *testing.T, s writ.Script) ([]string, *bench.Bench) {
	t.Helper()
	b, e := bench.New(s.N, s.F, s.Seed, s.Odd)
	if e != api.OK {
		t.Fatalf("%+v: %v", s, e)
	}
	for _, c := range s.L {
		b.Step(c)
	}
	var lines []string
	for i := 1; i <= s.N; i++ {
		for _, e := range b.Events(i) {
			lines = append(lines, plainTell(i, e))
		}
	}
	return lines, b
}

// runs looks for what comes of a text.
func runs(t *testing.T, text, want string) {
	t.Helper()
	if out, at, e := writ.Run(text); out != want || at != 0 || e != api.OK {
		t.Errorf("Run(%.300q): %q, %d, %v, not %q", text, out, at, e, want)
	}
}

// runsAs looks for what a bench tells of a script: its lines.
func runsAs(t *testing.T, s writ.Script) []string {
	t.Helper()
	lines, _ := played(t, s)
	want := ""
	for _, line := range lines {
		want += line + "\n"
	}
	runs(t, textOf(s), want)
	return lines
}

// 27.3: all that nodes see is told, node by node, behind all choices.
func TestRun(t *testing.T) {
	lines := runsAs(t, writ.Script{N: 4, F: 1, Seed: "a", L: []api.Choice{
		{Kind: api.DoSubmit, Node: 3, ID: 9, M: "z"},
		{Kind: api.DoSubmit, Node: 2, ID: 7, M: "m"},
		{Kind: api.DoSubmit, Node: 2, ID: 7, M: "n"},
		{Kind: api.DoDown, Node: 2, N: -1},
		{Kind: api.DoStart, Node: 2},
		{Kind: api.DoRound, N: 50},
		{Kind: api.DoSubmit, Node: 2, ID: 7, M: "m"},
		{Kind: api.DoSubmit, Node: 1, ID: 1},
	}})
	for i, start := range []string{"asked 1 1 . 1 .", "asked 2 7 6d 1 .", "asked 2 7 6e 3 .", "opened 2 7", "replied 2 7 6d ", "asked 2 7 6d 4 ",
		"asked 3 9 7a 1 .", "replied 3 9 7a "} {
		if !strings.HasPrefix(lines[i], start) || len(lines) != 8 {
			t.Fatalf("line %d of %d is %q, not %q", i, len(lines), lines[i], start)
		}
	}
	if z, again := lines[4][len("replied 2 7 6d "):], lines[5][len("asked 2 7 6d 4 "):]; len(z) != 64 || z != again {
		t.Errorf("%q, and again %q", z, again)
	}
}

// 27.3: a bench without choices, or of which none sees anything, tells nothing.
func TestRunNothing(t *testing.T) {
	runs(t, first, "")
	runs(t, "bench 10 3 0 .\n", "")
	runs(t, "bench 4 1 8 00\ntick 1\ntick -1\ndeliver 0\nlose 7\nagain 0\ndown 9 0 0\nfuse 0 1\nforge 1 2 .\nround 51\nround -1\nround 2\n", "")
	runs(t, first+"down 1 0 0\nsubmit 1 7 6d\n", "")
	runs(t, first+strings.Repeat("start 1\n", 500), "")
}

// 27.3: each line of a text does its choice.
func TestRunKinds(t *testing.T) {
	s, _ := everyKind()
	runsAs(t, s)
	s = writ.Script{N: 4, F: 1, Odd: 8, Seed: "k", L: []api.Choice{
		{Kind: api.DoSubmit, Node: 1, ID: 7, M: "m"},
		{Kind: api.DoTick, Node: 1},
		{Kind: api.DoForge, Node: 4, N: 1, M: "x"},
		{Kind: api.DoAgain, N: 1},
		{Kind: api.DoLose, N: 0},
		{Kind: api.DoDeliver, N: 2},
		{Kind: api.DoFuse, Node: 2, N: 3},
		{Kind: api.DoSubmit, Node: 2, ID: 8, M: "p"},
		{Kind: api.DoSubmit, Node: 2, ID: 9, M: "q"},
		{Kind: api.DoDown, Node: 2, N: 20, Mask: 3},
		{Kind: api.DoStart, Node: 2},
		{Kind: api.DoSubmit, Node: 1, ID: 9, M: "q"},
		{Kind: api.DoRound, N: 9},
	}}
	runsAs(t, s)
	for i := range s.L {
		less := s
		less.L = append(append([]api.Choice{}, s.L[:i]...), s.L[i+1:]...)
		runsAs(t, less)
	}
}

// 27.3: the seed and the odd nodes are the bench's.
func TestRunBench(t *testing.T) {
	body := "submit 1 7 6d\nround 5\n"
	outs := map[string]string{}
	for _, line := range []string{"bench 1 0 0 .", "bench 1 0 0 00", "bench 1 0 0 2e", "bench 4 1 0 .", "bench 4 0 0 .", "bench 5 1 0 ."} {
		out, _, e := writ.Run(line + "\n" + body)
		if e != api.OK || outs[out] != "" {
			t.Errorf("%q is as %q, %v: %q", line, outs[out], e, out)
		}
		outs[out] = line
	}
	full := "bench 4 1 2 " + strings.Repeat("61", 60) + "\n"
	runs(t, full, "")
}

// 27.3: Parse's error ahead, then that of the bench, in line 1.
func TestRunErrors(t *testing.T) {
	for _, line := range []string{
		"bench 0 0 0 .", "bench 3 1 0 .", "bench 11 1 0 .", "bench -1 0 0 .", "bench 4 -1 0 .", "bench 4 1 3 .", "bench 4 1 16 .",
		"bench 1 0 1 .", "bench 4 1 1023 .", "bench 9223372036854775807 0 0 .", "bench -9223372036854775808 0 0 .",
		"bench 4 9223372036854775807 0 .", "bench 4294967297 0 0 .", "bench 1 0 512 " + strings.Repeat("00", 60),
	} {
		for _, rest := range []string{"", "tick 1\n", "tick 1\nround 50\n"} {
			if out, at, e := writ.Run(line + "\n" + rest); out != "" || at != 1 || e != api.ErrArg {
				t.Errorf("%q: %q, %d, %v", line, out, at, e)
			}
		}
		fails(t, line+"\nnone\n", 2, api.ErrForm)
		fails(t, line+"\ntick 1\ntick 1", 3, api.ErrForm)
		fails(t, line+"\n"+strings.Repeat("tick 1\n", 501), 502, api.ErrLong)
	}
}

// anyPlay is a script that does much.
func anyPlay(source *rand.Rand, count int) writ.Script {
	n := 1 + source.Intn(5)
	s := writ.Script{N: n, F: (n - 1) / 3, Seed: anyText(source, 60)}
	if s.F > 0 && source.Intn(2) == 0 {
		s.Odd = 1 << source.Intn(n)
	}
	for range count {
		c := anyChoice(source, 1+source.Intn(10))
		node := 1 + source.Intn(n)
		switch c.Kind {
		case api.DoSubmit:
			c = api.Choice{Kind: c.Kind, Node: node, ID: 1 + source.Intn(12), M: strconv.Itoa(source.Intn(2))}
		case api.DoDeliver, api.DoLose, api.DoAgain:
			c.N = source.Intn(9)
		case api.DoDown, api.DoFuse, api.DoForge:
			c.Node, c.N = node, source.Intn(20)
		case api.DoTick, api.DoStart:
			c.Node = node
		case api.DoRound:
			c.N = source.Intn(5)
		}
		s.L = append(s.L, c)
	}
	return s
}

// 27.3: whatever a script chooses, what comes of its text is what a bench tells. R6: again and again.
func TestRunAny(t *testing.T) {
	kinds := map[string]int{}
	for seed := range 24 {
		t.Run(fmt.Sprint(seed), func(t *testing.T) {
			s := anyPlay(rand.New(rand.NewSource(int64(seed))), 20+seed*5)
			lines := runsAs(t, s)
			runsAs(t, s)
			for _, line := range lines {
				kinds[strings.Fields(line)[0]]++
				if strings.Contains(line, " 4 ") && len(line) > 64 {
					kinds["done"]++
				}
			}
		})
	}
	if kinds["asked"] < 50 || kinds["replied"] < 20 || kinds["opened"] < 20 || kinds["done"] < 3 {
		t.Errorf("not much came about: %v", kinds)
	}
}

// P2: what is told is told of a queue that signs.
func TestRunKeepsRules(t *testing.T) {
	for seed := range 6 {
		s := anyPlay(rand.New(rand.NewSource(int64(100+seed))), 60)
		s.L = append(s.L, api.Choice{Kind: api.DoRound, N: 50})
		for i, c := range s.L {
			// Of requests in which the power goes nobody can tell which message is kept, if they have two.
			if c.Kind == api.DoSubmit {
				s.L[i].M = "m"
			}
		}
		_, b := played(t, s)
		for i := 1; i <= s.N; i++ {
			if s.Odd>>(i-1)&1 == 1 {
				continue
			}
			if rule, at, e := oracle.Check(b.Public(), b.Events(i)); rule != 0 || at != 0 || e != api.OK {
				t.Errorf("seed %d, node %d: %d, %d, %v", seed, i, rule, at, e)
			}
			for _, e := range b.Events(i) {
				if e.Kind == oracle.Replied || e.Answer == queue.Done {
					if schnorr.Verify(b.Public(), e.R.M, e.Sig) != api.OK {
						t.Errorf("seed %d, node %d: %+v", seed, i, e)
					}
				}
			}
		}
	}
}
