package dkg_test

import (
	"bytes"
	"crypto/sha256"
	"encoding/binary"
	"math/big"
	"slices"

	"wardmote/api"
	"wardmote/curve"
	"wardmote/dkg"
	"wardmote/field"
	"wardmote/king"
	"wardmote/limb"
)

// What a node is, as the document tells it: a plain one keeps all that it was told, and works out from that, each time
// anew, what it has. Texts are read by bytes.Reader, scalars reckoned in math/big, sums by crypto/sha256.

// mostFail is by n the greatest f with 3 f < n.
var mostFail = [...]int{1: 0, 2: 0, 3: 0, 4: 1, 5: 1, 6: 1, 7: 2, 8: 2, 9: 2, 10: 3}

var bigQ = new(big.Int).SetBytes([]byte(limb.Bytes(field.Scalars().Modulus())))

type plain struct {
	n, f, self int
	seed       string
	told       [][]string // by round
}

// scalarOf is a number mod Q.
func scalarOf(a *big.Int) api.Num {
	out, _ := limb.FromBytes(string(new(big.Int).Mod(a, bigQ).FillBytes(make([]byte, 32))))
	return out
}

func bigOf(a api.Num) *big.Int { return new(big.Int).SetBytes([]byte(limb.Bytes(a))) }

// line is what a seed deals.
func line(seed string, count int) []api.Num {
	var out []api.Num
	tag := "wardmote/deal"
	for i := range count {
		hashed := append([]byte{byte(len(tag))}, tag...)
		hashed = append(binary.BigEndian.AppendUint32(hashed, uint32(len(seed))), seed...)
		hashed = binary.BigEndian.AppendUint64(binary.BigEndian.AppendUint32(hashed, 8), uint64(i))
		high, low := sha256.Sum256(append([]byte{0}, hashed...)), sha256.Sum256(append([]byte{1}, hashed...))
		out = append(out, scalarOf(new(big.Int).SetBytes(append(high[:], low[:]...))))
	}
	return out
}

// valueOf is a polynomial's at a node.
func valueOf(line []api.Num, x int) api.Num {
	out := new(big.Int)
	for _, a := range slices.Backward(line) {
		out.Add(out.Mul(out, big.NewInt(int64(x))), bigOf(a))
	}
	return scalarOf(out)
}

// What costs much is kept from call to call.
var (
	records   = map[string]record{}
	multiples = map[api.Num]api.Point{}
	decoded   = map[string][]api.Point{}
	values    = map[string]api.Point{}
)

// timesG is a number times G.
func timesG(a api.Num) api.Point {
	out, is := multiples[a]
	if !is {
		out, _ = curve.Mul(a, curve.G())
		multiples[a] = out
	}
	return out
}

// codeOf are points as commitments' bytes.
func codeOf(points ...api.Point) string {
	out := string([]byte{byte(len(points))})
	for _, a := range points {
		code, _ := curve.Encode(a)
		out += code
	}
	return out
}

// commit are a polynomial's commitments, as bytes.
func commit(line []api.Num) string {
	var points []api.Point
	for _, a := range line {
		points = append(points, timesG(a))
	}
	return codeOf(points...)
}

// pointsOf are the commitments that bytes are, if there are so many; else nil.
func pointsOf(code string, count int) []api.Point {
	if len(code) != 1+33*count || int(code[0]) != count {
		return nil
	}
	out, is := decoded[code]
	if !is {
		for i := range count {
			a, e := curve.Decode(code[1+33*i : 34+33*i])
			if e != api.OK {
				out = nil
				break
			}
			out = append(out, a)
		}
		decoded[code] = out
	}
	return out
}

// isShare tells whether commitments tell that it is a node's share.
func isShare(points []api.Point, node int, s api.Num) bool {
	at := codeOf(points...) + string([]byte{byte(node)})
	value, is := values[at]
	if !is {
		value = api.Point{Inf: true}
		for _, a := range slices.Backward(points) {
			value, _ = curve.Mul(api.Num{uint64(node)}, value)
			value, _ = curve.Add(value, a)
		}
		values[at] = value
	}
	return timesG(s) == value
}

// pack is a record as bytes, whether it is one or not.
func pack(kind int, items ...string) string {
	out := []byte{byte(kind), byte(len(items))}
	for _, item := range items {
		out = binary.BigEndian.AppendUint16(out, uint16(len(item)))
		out = append(out, item...)
	}
	return string(out)
}

// record is what bytes are, if they are a record.
type record struct {
	kind  int
	items []string
	is    bool
}

// unpack is the record that bytes are, and whether they are one.
func unpack(s string) (int, []string, bool) {
	r, is := records[s]
	if !is {
		r.kind, r.items, r.is = read(s)
		records[s] = r
	}
	return r.kind, slices.Clone(r.items), r.is
}

// read is unpack of bytes that were not met yet.
func read(s string) (int, []string, bool) {
	in := bytes.NewReader([]byte(s))
	var head struct{ Kind, Count uint8 }
	if len(s) > 20000 || binary.Read(in, binary.BigEndian, &head) != nil || head.Kind < 1 || head.Kind > 63 || head.Count > 40 {
		return 0, nil, false
	}
	var items []string
	for range head.Count {
		var size uint16
		if binary.Read(in, binary.BigEndian, &size) != nil || size > 8000 || int(size) > in.Len() {
			return 0, nil, false
		}
		item := make([]byte, size)
		in.Read(item)
		items = append(items, string(item))
	}
	return int(head.Kind), items, in.Len() == 0
}

// items are those that a node told in a round, if they are so many (below 0: any); and whether it told some text of it.
func (p *plain) items(round, node, count int) ([]string, bool) {
	kind, items, is := unpack(p.told[round][node-1])
	if !is || kind != 10+min(round, 6) || count >= 0 && len(items) != count {
		return nil, false
	}
	return items, true
}

// dealt is what a dealer dealt it.
func (p *plain) dealt(dealer int) (string, api.Num, bool) {
	items, is := p.items(0, dealer, 2)
	if !is || pointsOf(items[0], p.f+1) == nil {
		return "", api.Num{}, false
	}
	s, is := scalarIn(items[1])
	if !is {
		return "", api.Num{}, false
	}
	return items[0], s, true
}

// scalarIn is the scalar that bytes are.
func scalarIn(s string) (api.Num, bool) {
	a := new(big.Int).SetBytes([]byte(s))
	if len(s) != 32 || a.Cmp(bigQ) >= 0 {
		return api.Num{}, false
	}
	return scalarOf(a), true
}

// column is what each node told of a dealer in a round of n items.
func (p *plain) column(round, dealer int) []string {
	out := make([]string, p.n)
	for i := range out {
		if items, is := p.items(round, i+1, p.n); is {
			out[i] = items[dealer-1]
		}
	}
	return out
}

// often are the texts, but the empty one, that are there at least so often.
func often(texts []string, least int) []string {
	var out []string
	for _, text := range texts {
		count := 0
		for _, other := range texts {
			if other == text {
				count++
			}
		}
		if text != "" && count >= least && !slices.Contains(out, text) {
			out = append(out, text)
		}
	}
	return out
}

func markOf(text string) string {
	sum := sha256.Sum256([]byte(text))
	return string(sum[:])
}

// mark is what it tells of a dealer in round 2.
func (p *plain) mark(dealer int) string {
	echoed := often(p.column(1, dealer), p.n-p.f)
	if len(echoed) == 0 {
		return ""
	}
	return markOf(echoed[0])
}

// commitments are those of a dealer; nil, if there are none.
func (p *plain) commitments(dealer int) []api.Point {
	ready := often(p.column(2, dealer), p.f+1)
	if len(ready) != 1 {
		return nil
	}
	for _, text := range p.column(1, dealer) {
		if text != "" && markOf(text) == ready[0] {
			return pointsOf(text, p.f+1)
		}
	}
	return nil
}

// sure tells whether it is sure of a dealer's commitments.
func (p *plain) sure(dealer int) bool {
	return p.commitments(dealer) != nil && len(often(p.column(2, dealer), p.n-p.f)) == 1
}

// first is the share that it has behind round 2.
func (p *plain) first(dealer int) (api.Num, bool) {
	points := p.commitments(dealer)
	_, s, is := p.dealt(dealer)
	if points == nil || !is || !isShare(points, p.self, s) {
		return api.Num{}, false
	}
	return s, true
}

// accusers are the nodes that complained of a dealer.
func (p *plain) accusers(dealer int) []int {
	var out []int
	for node := 1; node <= p.n; node++ {
		items, is := p.items(3, node, 1)
		if !is || len(items[0])%8 != 0 || len(items[0]) > 8000 {
			continue
		}
		last, rising, named := uint64(0), true, false
		for at := 0; at < len(items[0]); at += 8 {
			number := binary.BigEndian.Uint64([]byte(items[0][at : at+8]))
			rising = rising && number > last && number <= uint64(p.n)
			named = named || number == uint64(dealer)
			last = number
		}
		if rising && named {
			out = append(out, node)
		}
	}
	return out
}

// shown is the share of a node that a dealer has shown.
func (p *plain) shown(dealer, node int) (api.Num, bool) {
	points := p.commitments(dealer)
	items, _ := p.items(4, dealer, -1)
	if points == nil || !slices.Contains(p.accusers(dealer), node) {
		return api.Num{}, false
	}
	return firstShown(points, node, node, items)
}

// firstShown is the first of items with a number that shows a node's share.
func firstShown(points []api.Point, number, node int, items []string) (api.Num, bool) {
	for _, item := range items {
		if len(item) != 33 || int(item[0]) != number {
			continue
		}
		if s, is := scalarIn(item[1:]); is && isShare(points, node, s) {
			return s, true
		}
	}
	return api.Num{}, false
}

// vote is its vote for a dealer.
func (p *plain) vote(dealer int) int {
	if !p.sure(dealer) {
		return 0
	}
	for _, node := range p.accusers(dealer) {
		if _, is := p.shown(dealer, node); !is {
			return 0
		}
	}
	return 1
}

// share is the one that it has of a dealer behind round 5.
func (p *plain) share(dealer int) (api.Num, bool) {
	if s, is := p.first(dealer); is {
		return s, true
	}
	if s, is := p.shown(dealer, p.self); is {
		return s, true
	}
	points := p.commitments(dealer)
	if points == nil {
		return api.Num{}, false
	}
	for node := 1; node <= p.n; node++ {
		items, _ := p.items(5, node, -1)
		if s, is := firstShown(points, dealer, p.self, items); is {
			return s, true
		}
	}
	return api.Num{}, false
}

// word is what it has of a dealer behind all that it was told in rounds 6 on.
func (p *plain) word(dealer int) *king.Node {
	x, _ := king.New(p.n, p.f, p.self, p.vote(dealer))
	for round := 6; round < len(p.told); round++ {
		words := slices.Repeat([]int{2}, p.n)
		for i := range words {
			if items, is := p.items(round, i+1, 1); is && len(items[0]) == p.n {
				words[i] = int(items[0][dealer-1])
			}
		}
		x.Hear(words)
	}
	return x
}

// rounds are how many there are.
func (p *plain) rounds() int { return 6 + 3*(p.f+1) }

// send is what it sends now; only what is dealt and what is passed on hangs on the node to which it is sent.
func (p *plain) send() []string {
	var out []string
	for to := 1; to <= p.n && len(p.told) < p.rounds(); to++ {
		if to > 1 && len(p.told) != 0 && len(p.told) != 5 {
			out = append(out, out[0])
			continue
		}
		out = append(out, pack(10+min(len(p.told), 6), p.sendItems(to)...))
	}
	return out
}

// sendItems are those that it sends a node now.
func (p *plain) sendItems(to int) []string {
	own := line(p.seed, p.f+1)
	var out []string
	if len(p.told) == 0 {
		return []string{commit(own), limb.Bytes(valueOf(own, to))}
	}
	joined := ""
	for dealer := 1; dealer <= p.n; dealer++ {
		switch len(p.told) {
		case 1:
			code, _, _ := p.dealt(dealer)
			out = append(out, code)
		case 2:
			out = append(out, p.mark(dealer))
		case 3:
			if _, is := p.first(dealer); !is {
				joined += "\x00\x00\x00\x00\x00\x00\x00" + string([]byte{byte(dealer)})
			}
		case 4:
			if slices.Contains(p.accusers(p.self), dealer) { // here a node
				out = append(out, string([]byte{byte(dealer)})+limb.Bytes(valueOf(own, dealer)))
			}
		case 5:
			if s, is := p.shown(dealer, to); is {
				out = append(out, string([]byte{byte(dealer)})+limb.Bytes(s))
			}
		default:
			joined += string([]byte{byte(p.word(dealer).Send())})
		}
	}
	if len(p.told) == 3 || len(p.told) > 5 {
		return []string{joined}
	}
	return out
}

// key is its key, and whether there is one.
func (p *plain) key() (dkg.Key, bool) {
	if len(p.told) < p.rounds() {
		return dkg.Key{}, false
	}
	out := dkg.Key{N: p.n, F: p.f, Self: p.self, Group: slices.Repeat([]api.Point{{Inf: true}}, p.f+1)}
	sum := new(big.Int)
	for dealer := 1; dealer <= p.n; dealer++ {
		if value, _ := p.word(dealer).Done(); value != 1 {
			continue
		}
		s, is := p.share(dealer)
		if !is {
			return dkg.Key{}, false
		}
		sum.Add(sum, bigOf(s))
		for i, a := range p.commitments(dealer) {
			out.Group[i], _ = curve.Add(out.Group[i], a)
		}
		out.Dealers = append(out.Dealers, dealer)
	}
	out.Share, out.Public = scalarOf(sum), out.Group[0]
	if out.Public.Inf {
		return dkg.Key{}, false
	}
	return out, true
}
