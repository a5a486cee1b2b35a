package dkg

import (
	"wardmote/api"
	"wardmote/cast"
	"wardmote/domain"
	"wardmote/feld"
	"wardmote/field"
	"wardmote/parcel"
	"wardmote/share"
)

// dealLabel is the end for which coefficients are drawn.
const dealLabel = "wardmote/deal"

// polynomial is what a seed deals: so many coefficients.
func polynomial(seed string, count int) []api.Num {
	line := make([]api.Num, count)
	for i := range line {
		line[i], _ = domain.Draw(seed, dealLabel, i)
	}
	return line
}

// deal tells each node its polynomial's commitments, and the node's share.
func (x *Node) deal() [][]string {
	points, _ := feld.Commit(x.line)
	code, _ := feld.Encode(points)
	out := make([][]string, x.n)
	for i := range out {
		out[i] = []string{code, scalarCode(x.shareOf(i + 1))}
	}
	return out
}

// echo tells all what commitments each dealer dealt it.
func (x *Node) echo() [][]string {
	items := make([]string, x.n)
	for i, d := range x.dealers {
		items[i] = d.dealt
	}
	return x.toAll(items...)
}

// mark tells all, of each dealer, the mark of what is echoed.
func (x *Node) mark() [][]string {
	items := make([]string, x.n)
	for i, d := range x.dealers {
		text, _, _ := cast.Echoed(x.n, x.f, d.echoes)
		items[i] = cast.Mark(text)
	}
	return x.toAll(items...)
}

// complain tells all of which dealers it has no share.
func (x *Node) complain() [][]string {
	var lacking []int
	for i, d := range x.dealers {
		if !d.has {
			lacking = append(lacking, i+1)
		}
	}
	item, _ := parcel.Ints(lacking)
	return x.toAll(item)
}

// show tells all the shares of those that complained of it.
func (x *Node) show() [][]string {
	var items []string
	for _, node := range x.dealers[x.self-1].accusers {
		items = append(items, showing(node, x.shareOf(node)))
	}
	return x.toAll(items...)
}

// pass tells each node what dealers have shown of it.
func (x *Node) pass() [][]string {
	out := make([][]string, x.n)
	for node := range out {
		for d := range x.dealers {
			if s, is := x.shown[place{d + 1, node + 1}]; is {
				out[node] = append(out[node], showing(d+1, s))
			}
		}
	}
	return out
}

// say tells all its word of each dealer.
func (x *Node) say() [][]string {
	words := make([]byte, x.n)
	for i, d := range x.dealers {
		words[i] = byte(d.vote.Send())
	}
	return x.toAll(string(words))
}

// shareOf is a node's share of its polynomial.
func (x *Node) shareOf(node int) api.Num {
	s, _ := share.Eval(x.line, node)
	return s
}

// showing is the item that shows a share: of a node, or of a dealer.
func showing(node int, s api.Num) string { return string([]byte{byte(node)}) + scalarCode(s) }

// scalarCode are a scalar's bytes.
func scalarCode(s api.Num) string {
	code, _ := field.Scalars().Encode(s)
	return code
}
