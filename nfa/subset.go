package nfa

import (
	"slices"

	"stackyard/api"
)

// key is a set of states as a text.
func key(l []int) string {
	b := make([]byte, 0, 2*len(l))
	for _, s := range l {
		b = append(b, byte(s), byte(s>>8))
	}
	return string(b)
}

// subsets are the sets of states that a deterministic automaton's states stand for.
type subsets struct {
	*runner
	numbers map[string]int
	sets    [][]int
	most    int
}

// number is that of a set; -1: it would be one too many.
func (d *subsets) number(set []int) int {
	k := key(set)
	n, known := d.numbers[k]
	if known {
		return n
	}
	if len(d.sets) == d.most {
		return -1
	}
	n = len(d.sets)
	d.numbers[k] = n
	d.sets = append(d.sets, set)
	return n
}

// row is the numbers of what comes of a set by each symbol; false: there are too many sets.
func (d *subsets) row(set []int, symbols int) ([]int, bool) {
	var always []int
	by := map[int][]int{}
	for _, s := range set {
		for _, t := range d.out[s] {
			if t.Sym == anySymbol {
				always = append(always, t.To)
			} else if t.Sym != noSymbol {
				by[t.Sym] = append(by[t.Sym], t.To)
			}
		}
	}
	row := make([]int, symbols)
	others := -1
	for sym := range symbols {
		n := others
		if n < 0 || len(by[sym]) > 0 {
			n = d.number(d.close(slices.Concat(always, by[sym])))
		}
		if n < 0 {
			return nil, false
		}
		if len(by[sym]) == 0 {
			others = n
		}
		row[sym] = n
	}
	return row, true
}

// most is how many states a deterministic automaton has at most.
func most(symbols int) int {
	if symbols == 0 {
		return api.MaxDfa
	}
	return min(api.MaxDfa, api.MaxTable/symbols)
}

// Dfa: an automaton, made deterministic.
func Dfa(a api.Nfa) (api.Dfa, api.Errno) {
	if e := Check(a); e != api.OK {
		return api.Dfa{}, e
	}
	d := subsets{runner: newRunner(a), numbers: map[string]int{}, most: most(a.Symbols)}
	d.number(d.close([]int{a.Start}))
	out := api.Dfa{Symbols: a.Symbols}
	for i := 0; i < len(d.sets); i++ {
		row, ok := d.row(d.sets[i], a.Symbols)
		if !ok {
			return api.Dfa{}, api.ErrMany
		}
		out.Next = append(out.Next, row)
		out.Accept = append(out.Accept, slices.Contains(d.sets[i], a.End))
	}
	return out, api.OK
}
