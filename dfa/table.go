package dfa

import "stackyard/api"

// table is a deterministic automaton of any size: next of state s by symbol a is at s times symbols, and a.
type table struct {
	symbols int
	next    []int32
	accept  []bool
}

func tableOf(d api.Dfa) table {
	t := table{symbols: d.Symbols, accept: d.Accept}
	for _, row := range d.Next {
		for _, to := range row {
			t.next = append(t.next, int32(to))
		}
	}
	return t
}

func (t table) row(s int) []int32 { return t.next[s*t.symbols : (s+1)*t.symbols] }

// dfa is a table as an automaton, in new memory.
func (t table) dfa() api.Dfa {
	d := api.Dfa{Symbols: t.symbols}
	for s, accepts := range t.accept {
		row := make([]int, t.symbols)
		for sym, to := range t.row(s) {
			row[sym] = int(to)
		}
		d.Next = append(d.Next, row)
		d.Accept = append(d.Accept, accepts)
	}
	return d
}

// quotient is the table of the classes of states that are met from state 0, numbered as they are met.
func (t table) quotient(class []int32, classes int) table {
	number := make([]int32, classes)
	for i := range number {
		number[i] = -1
	}
	q := table{symbols: t.symbols}
	var states []int
	meet := func(s int32) int32 {
		c := class[s]
		if number[c] < 0 {
			number[c] = int32(len(states))
			states = append(states, int(s))
			q.accept = append(q.accept, t.accept[s])
		}
		return number[c]
	}
	meet(0)
	for i := 0; i < len(states); i++ {
		for _, to := range t.row(states[i]) {
			q.next = append(q.next, meet(to))
		}
	}
	return q
}

// reached is the table of the states that are met from state 0.
func (t table) reached() table {
	class := make([]int32, len(t.accept))
	for i := range class {
		class[i] = int32(i)
	}
	return t.quotient(class, len(class))
}

// least is the least table that takes the same words; false: it has more states than may be.
func (t table) least(most int) (table, bool) {
	t = t.reached()
	p := newPartition(t.accept)
	if !p.refine(t, most) {
		return table{}, false
	}
	return t.quotient(p.block, len(p.first)), true
}

// partition holds states in blocks: those of a block stand side by side among all, its marked ones ahead.
type partition struct {
	all, place, block   []int32
	first, size, marked []int32
}

// newPartition parts states that accept from others.
func newPartition(accept []bool) *partition {
	n := len(accept)
	p := &partition{all: make([]int32, n), place: make([]int32, n), block: make([]int32, n)}
	p.first, p.size, p.marked = []int32{0}, []int32{int32(n)}, []int32{0}
	for s := range n {
		p.all[s], p.place[s] = int32(s), int32(s)
	}
	for s, accepts := range accept {
		if accepts {
			p.mark(int32(s))
		}
	}
	p.split(0)
	return p
}

// mark marks a state; true: it is the first one of its block.
func (p *partition) mark(s int32) bool {
	b := p.block[s]
	at, to := p.place[s], p.first[b]+p.marked[b]
	if at < to {
		return false
	}
	other := p.all[to]
	p.all[to], p.all[at] = s, other
	p.place[s], p.place[other] = to, at
	p.marked[b]++
	return p.marked[b] == 1
}

// split parts the marked ones of a block from the others: the fewer ones become a new block; true: there is one.
func (p *partition) split(b int32) bool {
	m := p.marked[b]
	p.marked[b] = 0
	rest := p.size[b] - m
	if m == 0 || rest == 0 {
		return false
	}
	from, n := p.first[b], m
	if m <= rest {
		p.first[b] += m
	} else {
		from, n = from+m, rest
	}
	p.size[b] -= n
	number := int32(len(p.first))
	p.first, p.size, p.marked = append(p.first, from), append(p.size, n), append(p.marked, 0)
	for _, s := range p.all[from : from+n] {
		p.block[s] = number
	}
	return true
}

// before tells of each state from which ones a symbol leads to it: those from at[s] to at[s+1] of from.
type before struct{ at, from []int32 }

func (t table) before(sym int) before {
	n := len(t.accept)
	b := before{at: make([]int32, n+1), from: make([]int32, n)}
	for s := range n {
		b.at[t.next[s*t.symbols+sym]+1]++
	}
	for s := range n {
		b.at[s+1] += b.at[s]
	}
	put := make([]int32, n)
	for s := range n {
		to := t.next[s*t.symbols+sym]
		b.from[b.at[to]+put[to]] = int32(s)
		put[to]++
	}
	return b
}

// refine splits blocks until states of one block take the same words (Hopcroft); false: there are more than most.
func (p *partition) refine(t table, most int) bool {
	var back []before
	for sym := range t.symbols {
		back = append(back, t.before(sym))
	}
	var work []int32
	if len(p.first) > 1 {
		work = append(work, 1)
	}
	var members, touched []int32
	for len(work) > 0 && len(p.first) <= most {
		b := work[len(work)-1]
		work = work[:len(work)-1]
		members = append(members[:0], p.all[p.first[b]:p.first[b]+p.size[b]]...)
		for _, before := range back {
			touched = touched[:0]
			for _, s := range members {
				for _, from := range before.from[before.at[s]:before.at[s+1]] {
					if p.mark(from) {
						touched = append(touched, p.block[from])
					}
				}
			}
			for _, c := range touched {
				if p.split(c) {
					work = append(work, int32(len(p.first)-1))
				}
			}
		}
	}
	return len(p.first) <= most
}
