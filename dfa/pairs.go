package dfa

import "stackyard/api"

// pairs are states of two automata that are met together, numbered as they are met.
type pairs struct {
	a, b    table
	numbers map[[2]int32]int32
	list    [][2]int32
	from    []int32 // the pair from which each was first met
	by      []int32 // and the symbol
}

func newPairs(a, b api.Dfa) *pairs {
	x, _ := tableOf(a).least(api.MaxDfa)
	y, _ := tableOf(b).least(api.MaxDfa)
	p := &pairs{a: x, b: y, numbers: map[[2]int32]int32{}}
	p.meet([2]int32{0, 0}, -1, -1)
	return p
}

// meet is the number of a pair, met from another one by a symbol.
func (p *pairs) meet(k [2]int32, from, by int32) int32 {
	n, known := p.numbers[k]
	if !known {
		n = int32(len(p.list))
		p.numbers[k] = n
		p.list = append(p.list, k)
		p.from = append(p.from, from)
		p.by = append(p.by, by)
	}
	return n
}

// product is the least table of all pairs, which accept as is said of the two; false: it has more states than most.
func (p *pairs) product(most int, accepts func(x, y bool) bool) (table, bool) {
	t := table{symbols: p.a.symbols}
	asked := false
	for i := 0; i < len(p.list); i++ {
		if !asked && len(p.list) > manyPairs {
			asked = true
			if p.tooMany(most, accepts) {
				return table{}, false
			}
		}
		k := p.list[i]
		t.accept = append(t.accept, accepts(p.a.accept[k[0]], p.b.accept[k[1]]))
		second := p.b.row(int(k[1]))
		for sym, to := range p.a.row(int(k[0])) {
			t.next = append(t.next, p.meet([2]int32{to, second[sym]}, int32(i), int32(sym)))
		}
	}
	return t.least(most)
}

// word is the one by which a pair was first met.
func (p *pairs) word(n int32) []int {
	length := 0
	for i := n; p.from[i] >= 0; i = p.from[i] {
		length++
	}
	w := make([]int, length)
	for i := n; p.from[i] >= 0; i = p.from[i] {
		length--
		w[length] = int(p.by[i])
	}
	return w
}

// first is the first word that leads to a pair that is wanted.
func (p *pairs) first(wanted func(x, y bool) bool) ([]int, bool) {
	for i := 0; i < len(p.list); i++ {
		k := p.list[i]
		if wanted(p.a.accept[k[0]], p.b.accept[k[1]]) {
			return p.word(int32(i)), true
		}
		second := p.b.row(int(k[1]))
		for sym, to := range p.a.row(int(k[0])) {
			p.meet([2]int32{to, second[sym]}, int32(i), int32(sym))
		}
	}
	return nil, false
}

// together is the least automaton of two that accepts as is said of them.
func together(a, b api.Dfa, accepts func(x, y bool) bool) (api.Dfa, api.Errno) {
	if e := checkBoth(a, b); e != api.OK {
		return api.Dfa{}, e
	}
	t, ok := newPairs(a, b).product(most(a.Symbols), accepts)
	if !ok {
		return api.Dfa{}, api.ErrMany
	}
	return t.dfa(), api.OK
}

// Both takes the words that both take.
func Both(a, b api.Dfa) (api.Dfa, api.Errno) {
	return together(a, b, func(x, y bool) bool { return x && y })
}

// Either takes the words that either takes.
func Either(a, b api.Dfa) (api.Dfa, api.Errno) {
	return together(a, b, func(x, y bool) bool { return x || y })
}

// Within tells whether one takes all words that the other one takes; else the first that it does not.
func Within(a, b api.Dfa) (bool, []int, api.Errno) {
	if e := checkBoth(a, b); e != api.OK {
		return false, nil, e
	}
	w, found := newPairs(a, b).first(func(x, y bool) bool { return x && !y })
	return !found, w, api.OK
}

// First is the first word that is taken.
func First(d api.Dfa) ([]int, bool, api.Errno) {
	if e := Check(d); e != api.OK {
		return nil, false, e
	}
	w, found := newPairs(d, d).first(func(x, _ bool) bool { return x })
	return w, found, api.OK
}
