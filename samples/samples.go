// Package samples makes things without a pattern, the same ones each time, for tests of several layers.
package samples

import (
	"stackyard/api"
	"stackyard/cells"
	"stackyard/facts"
)

// Dice tells numbers one behind the other; the same start, the same numbers.
type Dice struct{ x uint64 }

// New is dice with a start.
func New(start int) *Dice { return &Dice{uint64(start)*0x9e3779b97f4a7c15 + 88172645463325252} }

// Below is a number from 0 to less than n.
func (d *Dice) Below(n int) int {
	d.x ^= d.x << 13
	d.x ^= d.x >> 7
	d.x ^= d.x << 17
	return int(d.x >> 11 % uint64(n))
}

// Spaces tells spaces of all kinds.
func Spaces() []api.Space {
	cost := api.Space{Tag: api.Cost, Dim: 20}
	fact := api.Space{Tag: api.FactsTag, Dim: 2}
	cell := api.Space{Tag: api.CellsTag, Dim: 2}
	return []api.Space{{Tag: api.Bool}, cost, fact, cell, {Tag: api.Pair, Parts: []api.Space{cost, fact}}, {Tag: api.Pair, Parts: []api.Space{{Tag: api.Bool}, cell}}}
}

// Weight is one of a space of Spaces.
func (d *Dice) Weight(s api.Space) api.Weight {
	if s.Tag == api.Pair {
		return api.Weight{Parts: []api.Weight{d.Weight(s.Parts[0]), d.Weight(s.Parts[1])}}
	}
	if d.Below(12) == 0 {
		return api.Weight{Zero: true}
	}
	var w api.Weight
	switch s.Tag {
	case api.Cost:
		w.Cost = d.Below(6)
	case api.FactsTag:
		w.Facts, _ = facts.Set(s.Dim, d.Below(s.Dim), d.Below(s.Dim+2)-2)
	case api.CellsTag:
		w.Cells, _ = cells.Set(s.Dim, d.Below(s.Dim), int64(d.Below(2)))
		if d.Below(2) == 0 {
			w.Cells, _ = cells.Copy(s.Dim, d.Below(s.Dim), d.Below(s.Dim))
		}
	}
	return w
}

// Auto is an automaton; eps: with transitions without symbols.
func (d *Dice) Auto(s api.Space, states, symbols, trans int, eps bool) api.Auto {
	a := api.Auto{Space: s, States: states, Symbols: symbols}
	for i := range states {
		if d.Below(3) == 0 {
			a.Final = append(a.Final, i)
		}
	}
	for range trans {
		t := api.Trans{From: d.Below(states), Sym: d.Below(symbols), To: d.Below(states), W: d.Weight(s)}
		if eps && d.Below(3) == 0 {
			t.Sym = -1
		}
		a.Trans = append(a.Trans, t)
	}
	return a
}

// Pds is a system whose rules put at most so many symbols.
func (d *Dice) Pds(s api.Space, states, symbols, rules, longest int) api.Pds {
	p := api.Pds{Space: s, States: states, Symbols: symbols}
	for range rules {
		r := api.Rule{P: d.Below(states), G: d.Below(symbols), Q: d.Below(states), F: d.Weight(s)}
		for range d.Below(longest + 1) {
			r.W = append(r.W, d.Below(symbols))
		}
		p.Rules = append(p.Rules, r)
	}
	return p
}

// Query is one of a system, with so many states besides the control states.
func (d *Dice) Query(p api.Pds, more, trans int) api.Auto {
	a := api.Auto{Space: p.Space, States: p.States + more, Symbols: p.Symbols}
	for i := range a.States {
		if i >= p.States && d.Below(2) == 0 || d.Below(5) == 0 || i == a.States-1 {
			a.Final = append(a.Final, i)
		}
	}
	for range trans {
		a.Trans = append(a.Trans, api.Trans{From: d.Below(a.States), Sym: d.Below(p.Symbols), To: p.States + d.Below(more), W: d.Weight(p.Space)})
	}
	return a
}

// Words tells all words of at most n symbols, shorter ones ahead.
func Words(n, symbols int) [][]int {
	l := [][]int{{}}
	for i := 0; i < len(l); i++ {
		if len(l[i]) < n {
			for x := range symbols {
				l = append(l, append(append([]int{}, l[i]...), x))
			}
		}
	}
	return l
}
