package writ

import (
	"strings"

	"wardmote/api"
)

// What a bench of a script may have.
const (
	maxSeed = 60
	maxOdd  = 1<<api.MaxNodes - 1
)

// maxWords is how many words the longest line has, the bench's.
const maxWords = 5

// forms are by kinds the lines of choices: a word, and the names of what follows.
var forms = [...]string{
	api.DoSubmit:  "submit Node ID M",
	api.DoTick:    "tick Node",
	api.DoDeliver: "deliver N",
	api.DoLose:    "lose N",
	api.DoAgain:   "again N",
	api.DoDown:    "down Node N Mask",
	api.DoStart:   "start Node",
	api.DoFuse:    "fuse Node N",
	api.DoForge:   "forge Node N M",
	api.DoRound:   "round N",
}

// check tells whether a script's bench is one, and its choices are not too many.
func check(s Script) api.Errno {
	switch {
	case len(s.L) > MaxLines, len(s.Seed) > maxSeed:
		return api.ErrLong
	case s.Odd < 0, s.Odd > maxOdd:
		return api.ErrForm
	}
	return api.OK
}

// take takes the next line of a text, the at'th.
func (s *Script) take(at int, line string) api.Errno {
	if at == 1 {
		is := false
		if *s, is = benchOf(line); !is || check(*s) != api.OK {
			return api.ErrForm
		}
		return api.OK
	}
	c, is := choiceOf(line)
	switch {
	case !is:
		return api.ErrForm
	case len(s.L) == MaxLines:
		return api.ErrLong
	}
	s.L = append(s.L, c)
	return api.OK
}

// benchLine is the line of a script's bench.
func benchLine(s Script) string {
	return lineOf("bench", number(s.N), number(s.F), number(s.Odd), hex(s.Seed))
}

// benchOf is the script without choices that a line tells, if it is a bench's.
func benchOf(line string) (Script, bool) {
	words := split(line)
	if len(words) != maxWords || words[0] != "bench" {
		return Script{}, false
	}
	n, isN := toNumber(words[1])
	f, isF := toNumber(words[2])
	odd, isOdd := toNumber(words[3])
	seed, isSeed := fromHex(words[4])
	return Script{N: n, F: f, Odd: odd, Seed: seed}, isN && isF && isOdd && isSeed
}

// choiceLine is a choice's line, if it has one that names all that it has.
func choiceLine(c api.Choice) (string, bool) {
	if c.Kind < api.DoSubmit || c.Kind > api.DoRound {
		return "", false
	}
	words := split(forms[c.Kind])
	for i, name := range words[1:] {
		words[i+1] = takeOut(&c, name)
	}
	return lineOf(words...), c == api.Choice{Kind: c.Kind}
}

// choiceOf is the choice that a line tells, if it is one's.
func choiceOf(line string) (api.Choice, bool) {
	words := split(line)
	for kind := api.DoSubmit; kind <= api.DoRound; kind++ {
		names := split(forms[kind])
		if names[0] == words[0] && len(names) == len(words) {
			c := api.Choice{Kind: kind}
			// In one statement with the call, c might be read ahead of it: Go leaves that order open.
			is := putAll(&c, names[1:], words[1:])
			return c, is
		}
	}
	return api.Choice{}, false
}

// takeOut takes what has a name out of a choice: the word for it.
func takeOut(c *api.Choice, name string) string {
	if name == "M" {
		m := c.M
		c.M = ""
		return hex(m)
	}
	at := place(c, name)
	n := *at
	*at = 0
	return number(n)
}

// putAll puts what words tell into a choice: whether they are words of what has these names.
func putAll(c *api.Choice, names, words []string) bool {
	for i, name := range names {
		is := false
		if name == "M" {
			c.M, is = fromHex(words[i])
		} else {
			*place(c, name), is = toNumber(words[i])
		}
		if !is {
			return false
		}
	}
	return true
}

// place is where a choice has the number of a name.
func place(c *api.Choice, name string) *int {
	switch name {
	case "Node":
		return &c.Node
	case "N":
		return &c.N
	case "ID":
		return &c.ID
	}
	return &c.Mask
}

// lineOf is a line: words with a blank between them.
func lineOf(words ...string) string { return strings.Join(words, " ") }

// split are a line's words; of a line that has too many the last one is no word.
func split(line string) []string { return strings.SplitN(line, " ", maxWords+1) }
