package agenda

// pile is the heap in which entries stand: what is to be done first is on top. It knows where each stands, so that one can
// be moved or dropped by its ticket.
type pile struct {
	entries []Entry
	places  map[int]int // by ticket: where it stands
}

// Len is how many there are.
func (p *pile) Len() int { return len(p.entries) }

// Less tells whether the entry at i is due ahead of that at j: of one moment the one that was put first.
func (p *pile) Less(i, j int) bool {
	a, b := p.entries[i], p.entries[j]
	if a.At != b.At {
		return a.At < b.At
	}
	return a.Ticket < b.Ticket
}

// Swap has two change places.
func (p *pile) Swap(i, j int) {
	p.entries[i], p.entries[j] = p.entries[j], p.entries[i]
	p.places[p.entries[i].Ticket] = i
	p.places[p.entries[j].Ticket] = j
}

// Push lays an entry behind all others.
func (p *pile) Push(x any) {
	entry, is := x.(Entry)
	if !is {
		return
	}
	// An agenda that nobody made by New has no map yet.
	if p.places == nil {
		p.places = map[int]int{}
	}
	p.places[entry.Ticket] = len(p.entries)
	p.entries = append(p.entries, entry)
}

// Pop takes the entry away that is behind all others.
func (p *pile) Pop() any {
	last := len(p.entries) - 1
	entry := p.entries[last]
	// Its text must not stay in the spare room.
	p.entries[last] = Entry{}
	p.entries = p.entries[:last]
	delete(p.places, entry.Ticket)
	return entry
}
