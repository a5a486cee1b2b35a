package dkg_test

import (
	"math/rand"
	"slices"
	"strings"
	"testing"

	"wardmote/api"
	"wardmote/dkg"
	"wardmote/limb"
)

// A liar tells what nodes that fail tell whom: what they would, what they would had they another seed, or made up things.
type liar struct {
	c      *crew
	source *rand.Rand
	twins  map[int]*dkg.Node // of the nodes that fail, with other seeds
	said   map[int][]string  // what these send in this round
	half   int               // to which nodes they tell the same
	zeal   int               // how often, of ten times, they tell something else than they would
	alike  bool              // whether complaints are told all alike
	told   map[int]string    // these complaints
}

// newLiar is a liar for a crew.
func newLiar(t *testing.T, c *crew, source *rand.Rand, alike bool) *liar {
	t.Helper()
	l := &liar{c: c, source: source, twins: map[int]*dkg.Node{}, alike: alike, told: map[int]string{}}
	l.half, l.zeal = source.Intn(1<<11), 1+source.Intn(10)
	for _, node := range c.fails {
		l.twins[node] = begin(t, c.n, c.f, node, "twin"+seeds[node-1])
	}
	return l
}

// run has the crew go through all rounds.
func (l *liar) run(t *testing.T) {
	t.Helper()
	for range 6 + 3*(l.c.f+1) {
		l.said = map[int][]string{}
		for node, twin := range l.twins {
			l.said[node] = twin.Send()
		}
		heard := l.c.step(t, l.lie)
		for node, twin := range l.twins {
			hears(t, twin, heard[node-1])
		}
	}
}

// lie is what a node that fails tells another one.
func (l *liar) lie(round, from, to int, text string) string {
	if round == 3 && l.alike {
		if _, is := l.told[from]; !is {
			l.told[from] = l.anyText(round, from, to, text)
		}
		return l.told[from]
	}
	return l.anyText(round, from, to, text)
}

func (l *liar) anyText(round, from, to int, text string) string {
	if l.source.Intn(10) >= l.zeal {
		return text
	}
	twin := l.said[from][to-1]
	switch l.source.Intn(8) {
	case 0:
		return twin
	case 1, 2:
		if l.half>>to&1 == 1 {
			return twin
		}
		return text
	case 3:
		return ""
	case 4:
		return l.spoilt(text)
	}
	return pack(10+min(round, 6), l.made(round, from, to)...)
}

// spoilt is a text with a byte changed, or cut, or with an item fewer or twice.
func (l *liar) spoilt(text string) string {
	at := l.source.Intn(len(text))
	switch l.source.Intn(4) {
	case 0:
		return text[:at] + string([]byte{text[at] ^ byte(1+l.source.Intn(255))}) + text[at+1:]
	case 1:
		return text[:at]
	}
	return within(text, func(items []string) []string {
		if len(items) == 0 {
			return []string{"", "a"}
		}
		at := l.source.Intn(len(items))
		item := items[at]
		return slices.Insert(slices.Delete(items, at, at+l.source.Intn(2)), at/2, item)
	})
}

// seedOf is one of the seeds that a node has; of one that fails there are two.
func (l *liar) seedOf(node int) string {
	if l.source.Intn(2) == 0 && slices.Contains(l.c.fails, node) {
		return "twin" + seeds[node-1]
	}
	return seeds[node-1]
}

// share is a node's share of what a dealer deals, or often a wrong one.
func (l *liar) share(dealer, node int) api.Num {
	s := valueOf(line(l.seedOf(dealer), l.c.f+1), node)
	if l.source.Intn(3) == 0 {
		s = more(s, 1)
	}
	return s
}

// made are made up items of a round.
func (l *liar) made(round, from, to int) []string {
	n, f := l.c.n, l.c.f
	var items []string
	joined := ""
	for node := 1; node <= n; node++ {
		switch round {
		case 0:
			code := commit(line(l.seedOf(from), f+1-l.source.Intn(8)/7))
			return []string{code, limb.Bytes(l.share(from, to))}
		case 1, 2:
			item := []string{commit(line(l.seedOf(node), f+1)), "", commit(line(seeds[to-1], f+1)), "a"}[l.source.Intn(10)/3]
			if round == 2 && item != "" {
				item = markOf(item)
			}
			items = append(items, item)
		case 3:
			if l.source.Intn(2) == 0 {
				joined += ints(uint64(node ^ l.source.Intn(16)/15))
			}
		case 4:
			items = append(items, slices.Repeat([]string{showing(node, l.share(from, node))}, l.source.Intn(3))...)
		case 5:
			items = append(items, slices.Repeat([]string{showing(node, l.share(node, to))}, l.source.Intn(3))...)
		default:
			joined += string([]byte{byte(l.source.Intn(7) / 2)})
		}
	}
	if round == 3 || round > 5 {
		return []string{joined}
	}
	return items
}

// met counts what the runs have met.
type met struct{ in, out, complained, passed, left, none int }

// count counts what a run has met.
func (m *met) count(c *crew, dealers []int) {
	if dealers == nil {
		m.none++
	}
	for node := 1; node <= c.n; node++ {
		fails, deals := slices.Contains(c.fails, node), slices.Contains(dealers, node)
		switch {
		case fails && deals:
			m.in++
		case fails:
			m.out++
		case !deals:
			m.left++
		}
	}
	for _, node := range c.honest() {
		p := c.plains[node-1]
		for _, dealer := range dealers {
			if _, is := p.first(dealer); is {
				continue
			}
			m.complained++
			if _, is := p.shown(dealer, node); !is {
				m.passed++
			}
		}
	}
}

// someFail are at most f nodes of n, rising: as often the first ones, whose turn it is to be king.
func someFail(source *rand.Rand, n, f int) []int {
	out := source.Perm(n)[:source.Intn(f+1)]
	if source.Intn(2) == 0 {
		out = source.Perm(f + 1)[:f]
	}
	for i := range out {
		out[i]++
	}
	slices.Sort(out)
	return out
}

// lieAll has crews of all tables, with nodes that fail, go through all rounds, and looks for what is promised then.
func lieAll(t *testing.T, alike bool, then func(c *crew, dealers []int)) met {
	t.Helper()
	var m met
	for n := 4; n <= 10; n++ {
		for f := 1; f <= mostFail[n]; f++ {
			for seed := range int64(1 + 7000/(n*n*n*n)) {
				source := rand.New(rand.NewSource(seed + int64(100*n+1000*f)))
				c := form(t, n, f, someFail(source, n, f)...)
				newLiar(t, c, source, alike).run(t)
				dealers := c.oneKey(t)
				m.count(c, dealers)
				then(c, dealers)
			}
		}
	}
	return m
}

// 17.2, 17.3: whatever at most f nodes tell whom, complaints but told all alike: all others have one key, and all of them
// are among its dealers.
func TestOneKey(t *testing.T) {
	m := lieAll(t, true, func(c *crew, dealers []int) {
		for _, node := range c.honest() {
			if !slices.Contains(dealers, node) {
				t.Fatalf("dealers %v, and node %d of %d did as told", dealers, node, c.n)
			}
		}
	})
	if m.in < 5 || m.out < 5 || m.complained < 3 || m.left != 0 || m.none != 0 {
		t.Errorf("met %+v", m)
	}
}

// 17.2, 17.3: whatever at most f nodes tell whom: all others have one key, or none has one.
func TestOneKeyTwoFaced(t *testing.T) {
	m := lieAll(t, false, func(*crew, []int) {})
	if m.in < 5 || m.out < 5 || m.complained < 3 {
		t.Errorf("met %+v", m)
	}
}

// 17.1: a node that hears anything, of more than f that fail too: it is as a plain one.
func TestLikePlain(t *testing.T) {
	for seed := range int64(60) {
		source := rand.New(rand.NewSource(seed))
		n := 1 + source.Intn(5)
		f := source.Intn(mostFail[n] + 1)
		c := form(t, n, f, slices.Sorted(slices.Values(source.Perm(n)[1:]))...)
		for i := range c.fails {
			c.fails[i]++
		}
		newLiar(t, c, source, false).run(t)
	}
}

// P1: whatever texts there are: a node goes on, and is done behind its rounds.
func FuzzNode(f *testing.F) {
	f.Add(1, 0, 1, "seed", "\x0a\x00\x0b\x00")
	f.Add(4, 1, 2, "", strings.Repeat(pack(14, "a"), 9))
	f.Add(4, 1, 5, "", pack(13, ints(1)))
	f.Fuzz(func(t *testing.T, n, most, self int, seed, bytes string) {
		x, e := dkg.New(n, most, self, seed)
		if (e == api.OK) != (x != nil) {
			t.Fatalf("New: %v, %v", x, e)
		}
		p := &plain{n: n, f: most, self: self, seed: seed}
		for x.Round() < x.Rounds() {
			told := slices.Clone(x.Send())
			for i := range told {
				length := min(len(bytes), i+x.Round())
				if length > 0 && bytes[0]%2 == 0 {
					told[i] = told[i][:1] + bytes[:length]
				}
				bytes = bytes[length:]
			}
			hears(t, x, told)
			p.told = append(p.told, told)
			like(t, x, p)
		}
	})
}
