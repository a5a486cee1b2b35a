package writ_test

import (
	"encoding/hex"
	"fmt"
	"math"
	"math/rand"
	"regexp"
	"strconv"
	"strings"
	"testing"

	"wardmote/api"
	"wardmote/writ"
)

// A plain reader and writer of scripts: lines are told by patterns, as the document shows them.

// asDrawn are lines by kinds: i, d, k, x, m are Node, N, ID, Mask and M.
var asDrawn = [...]string{
	1: "submit i k m", 2: "tick i", 3: "deliver d", 4: "lose d", 5: "again d", 6: "down i d x", 7: "start i", 8: "fuse i d",
	9: "forge i d m", 10: "round d",
}

// words fills a drawn line in.
func words(drawn string, c api.Choice) string {
	name, rest, _ := strings.Cut(drawn, " ")
	for _, letter := range strings.Fields(rest) {
		switch letter {
		case "i":
			name += fmt.Sprintf(" %d", c.Node)
		case "d":
			name += fmt.Sprintf(" %d", c.N)
		case "k":
			name += fmt.Sprintf(" %d", c.ID)
		case "x":
			name += fmt.Sprintf(" %d", c.Mask)
		case "m":
			name += " " + coded(c.M)
		}
	}
	return name
}

// coded is a text in digits.
func coded(m string) string {
	if m == "" {
		return "."
	}
	return fmt.Sprintf("%x", m)
}

// lineOf is a choice's line, without its end.
func lineOf(c api.Choice) string { return words(asDrawn[c.Kind], c) }

// head is a bench's line.
func head(s writ.Script) string {
	return fmt.Sprintf("bench %d %d %d %s\n", s.N, s.F, s.Odd, coded(s.Seed))
}

// textOf is a script's text.
func textOf(s writ.Script) string {
	out := head(s)
	for _, c := range s.L {
		out += lineOf(c) + "\n"
	}
	return out
}

// plainly reads a text.
func plainly(text string) (writ.Script, int, api.Errno) {
	var s writ.Script
	lines := strings.SplitAfter(text, "\n")
	if len(lines) > 1 && lines[len(lines)-1] == "" {
		lines = lines[:len(lines)-1]
	}
	for i, line := range lines {
		if i == 0 {
			if !readHead(line, &s) {
				return writ.Script{}, 1, api.ErrForm
			}
			continue
		}
		c, is := readLine(line)
		if !is {
			return writ.Script{}, i + 1, api.ErrForm
		}
		if i > 500 {
			return writ.Script{}, i + 1, api.ErrLong
		}
		s.L = append(s.L, c)
	}
	return s, 0, api.OK
}

const (
	numeral = `(0|-?[1-9][0-9]*)`
	digits  = `(\.|(?:[0-9a-f][0-9a-f])+)`
)

// matched are the groups of a pattern, if a line is of it.
func matched(pattern, line string) []string {
	return regexp.MustCompile(`\A` + pattern + `\n\z`).FindStringSubmatch(line)
}

// readHead reads a bench's line.
func readHead(line string, s *writ.Script) bool {
	m := matched("bench "+numeral+" "+numeral+" "+numeral+" "+digits, line)
	if m == nil || !readNumber(m[1], &s.N) || !readNumber(m[2], &s.F) || !readNumber(m[3], &s.Odd) {
		return false
	}
	s.Seed = decoded(m[4])
	return s.Odd >= 0 && s.Odd < 1024 && len(s.Seed) < 61
}

// readLine reads a choice's line.
func readLine(line string) (api.Choice, bool) {
	for kind, drawn := range asDrawn {
		c := api.Choice{Kind: kind}
		name, rest, _ := strings.Cut(drawn, " ")
		letters := strings.Fields(rest)
		pattern := name
		for _, letter := range letters {
			pattern += " " + map[bool]string{true: digits, false: numeral}[letter == "m"]
		}
		m := matched(pattern, line)
		if kind == 0 || m == nil {
			continue
		}
		for i, letter := range letters {
			at := map[string]*int{"i": &c.Node, "d": &c.N, "k": &c.ID, "x": &c.Mask}[letter]
			if letter == "m" {
				c.M = decoded(m[i+1])
			} else if !readNumber(m[i+1], at) {
				return api.Choice{}, false
			}
		}
		return c, true
	}
	return api.Choice{}, false
}

// readNumber reads a numeral.
func readNumber(text string, n *int) bool {
	got, err := strconv.ParseInt(text, 10, 64)
	*n = int(got)
	return err == nil
}

// decoded is a text of digits.
func decoded(word string) string {
	b, _ := hex.DecodeString(strings.TrimSuffix(word, "."))
	return string(b)
}

// edges are numbers that a script may have.
var edges = []int{0, 1, -1, 7, 9, 10, -10, 100, 1 << 40, 1<<40 + 1, math.MaxInt32, math.MinInt32, 1 << 32, math.MaxInt, math.MinInt}

// anyNumber is often one of the edges.
func anyNumber(source *rand.Rand) int {
	if source.Intn(2) == 0 {
		return edges[source.Intn(len(edges))]
	}
	return int(source.Uint64()) >> source.Intn(64)
}

// anyText has at most some bytes.
func anyText(source *rand.Rand, most int) string {
	b := make([]byte, source.Intn(most+1))
	source.Read(b)
	return string(b)
}

// anyChoice is one of a kind, that has nothing that its line does not name.
func anyChoice(source *rand.Rand, kind int) api.Choice {
	c := api.Choice{Kind: kind}
	for _, letter := range strings.Fields(asDrawn[kind])[1:] {
		switch letter {
		case "i":
			c.Node = anyNumber(source)
		case "d":
			c.N = anyNumber(source)
		case "k":
			c.ID = anyNumber(source)
		case "x":
			c.Mask = anyNumber(source)
		case "m":
			c.M = anyText(source, 20)
		}
	}
	return c
}

// anyScript has at most some choices.
func anyScript(source *rand.Rand, most int) writ.Script {
	s := writ.Script{N: anyNumber(source), F: anyNumber(source), Odd: source.Intn(1024), Seed: anyText(source, 60)}
	for range source.Intn(most + 1) {
		s.L = append(s.L, anyChoice(source, 1+source.Intn(10)))
	}
	return s
}

// formats looks for a script's text.
func formats(t *testing.T, s writ.Script, want string) {
	t.Helper()
	if got, e := writ.Format(s); got != want || e != api.OK {
		t.Errorf("Format(%+v): %q, %v, not %q", s, got, e, want)
	}
}

// refuses looks for the error of what is no script.
func refuses(t *testing.T, s writ.Script, want api.Errno) {
	t.Helper()
	if got, e := writ.Format(s); got != "" || e != want {
		t.Errorf("Format of %d choices, seed of %d bytes, odd %d: %.60q, %v, not %v", len(s.L), len(s.Seed), s.Odd, got, e, want)
	}
}

// same tells whether two scripts are.
func same(a, b writ.Script) bool {
	return a.N == b.N && a.F == b.F && a.Odd == b.Odd && a.Seed == b.Seed && fmt.Sprint(a.L) == fmt.Sprint(b.L)
}

// parses looks for the script of a text.
func parses(t *testing.T, text string, want writ.Script) {
	t.Helper()
	if got, at, e := writ.Parse(text); !same(got, want) || at != 0 || e != api.OK {
		t.Errorf("Parse(%.300q): %+v, %d, %v, not %+v", text, got, at, e, want)
	}
}

// fails looks for the first wrong line of a text; Run tells it, too.
func fails(t *testing.T, text string, line int, want api.Errno) {
	t.Helper()
	if s, at, e := writ.Parse(text); !same(s, writ.Script{}) || at != line || e != want {
		t.Errorf("Parse(%.300q): %+v, %d, %v, not %d, %v", text, s, at, e, line, want)
	}
	if out, at, e := writ.Run(text); out != "" || at != line || e != want {
		t.Errorf("Run(%.300q): %q, %d, %v, not %d, %v", text, out, at, e, line, want)
	}
}
