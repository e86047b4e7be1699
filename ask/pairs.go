package ask

import (
	"iter"

	"stackyard/api"
)

// pairs are states of a weighted automaton and of a deterministic one that are met together, numbered as they are met.
type pairs struct {
	auto    api.Auto
	lang    api.Dfa
	out     [][]int // the transitions from each state
	numbers map[[2]int]int
	list    [][2]int
}

func newPairs(a api.Auto, d api.Dfa) *pairs {
	p := &pairs{auto: a, lang: d, out: make([][]int, a.States), numbers: map[[2]int]int{}}
	for i, t := range a.Trans {
		p.out[t.From] = append(p.out[t.From], i)
	}
	return p
}

// meet is the number of a pair.
func (p *pairs) meet(state, k int) int {
	key := [2]int{state, k}
	n, known := p.numbers[key]
	if !known {
		n = len(p.list)
		p.numbers[key] = n
		p.list = append(p.list, key)
	}
	return n
}

// all tells the numbers of all pairs, also of those that are met meanwhile.
func (p *pairs) all() iter.Seq2[int, [2]int] {
	return func(yield func(int, [2]int) bool) {
		for i := 0; i < len(p.list); i++ {
			if !yield(i, p.list[i]) {
				return
			}
		}
	}
}

// past is the pair to which a transition leads from one.
func (p *pairs) past(k int, t api.Trans) int {
	if t.Sym >= 0 {
		k = p.lang.Next[k][t.Sym]
	}
	return p.meet(t.To, k)
}

// ends tells whether a path may end in a pair.
func (p *pairs) ends() []bool {
	final := make([]bool, p.auto.States)
	for _, s := range p.auto.Final {
		final[s] = true
	}
	l := make([]bool, len(p.list))
	for i, k := range p.all() {
		l[i] = final[k[0]] && p.lang.Accept[k[1]]
	}
	return l
}
