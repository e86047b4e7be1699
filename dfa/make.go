package dfa

import (
	"slices"

	"stackyard/api"
	"stackyard/regex"
	"stackyard/symbols"
)

// maker makes least tables of expressions over classes of symbols that no expression tells apart.
type maker struct {
	class   map[string]int // of the names in the expression
	classes int
	most    int
}

// newMaker finds the classes, numbered as their first symbols stand; the slice tells that of each symbol.
func newMaker(used []string, names []string) (maker, []int) {
	m := maker{class: map[string]int{}, most: most(len(names))}
	named := map[string]struct{}{}
	for _, n := range used {
		named[n] = struct{}{}
	}
	others := -1
	var of []int
	for _, n := range names {
		_, own := named[n]
		if own || others < 0 {
			m.class[n] = m.classes
			if !own {
				others = m.classes
			}
			of = append(of, m.classes)
			m.classes++
		} else {
			of = append(of, others)
		}
	}
	return m, of
}

// single is the table of the words of one symbol of a class; class below 0: of any.
func (m maker) single(class int) table {
	t := table{symbols: m.classes, accept: []bool{false, true, false}, next: make([]int32, 3*m.classes)}
	for c := range m.classes {
		t.next[c] = 2
		if class < 0 || c == class {
			t.next[c] = 1
		}
		t.next[m.classes+c], t.next[2*m.classes+c] = 2, 2
	}
	return t
}

// constant is the table of the empty word, or of none.
func (m maker) constant(empty bool) table {
	t := table{symbols: m.classes, accept: []bool{empty, false}, next: make([]int32, 2*m.classes)}
	for i := range t.next {
		t.next[i] = 1
	}
	return t
}

// of is the least table of an expression; false: that, or one of an expression in it, has too many states.
func (m maker) of(r api.Regex) (table, bool) {
	var kids []table
	for _, k := range r.Kids {
		t, ok := m.of(k)
		if !ok {
			return table{}, false
		}
		kids = append(kids, t)
	}
	switch r.Op {
	case api.RName:
		return m.single(m.class[r.Name]).least(m.most)
	case api.RAny:
		return m.single(-1).least(m.most)
	case api.REmpty, api.RNone:
		return m.constant(r.Op == api.REmpty).least(m.most)
	case api.RNot:
		t := kids[0]
		t.accept = slices.Clone(t.accept)
		for i, accepts := range t.accept {
			t.accept[i] = !accepts
		}
		return t, true
	}
	return newMixed(r.Op, kids).least(m.most)
}

// spread is a table over classes as one over symbols.
func spread(t table, of []int) table {
	out := table{symbols: len(of), accept: t.accept}
	for s := range t.accept {
		row := t.row(s)
		for _, c := range of {
			out.next = append(out.next, row[c])
		}
	}
	return out
}

// Make is the least automaton that takes the words of an expression, whose names are symbols by their places.
func Make(r api.Regex, names ...string) (api.Dfa, api.Errno) {
	used, e := regex.Names(r)
	if e != api.OK {
		return api.Dfa{}, e
	}
	numbers, ok := symbols.Number(names)
	if !ok || len(names) > api.MaxSymbols {
		return api.Dfa{}, api.ErrNames
	}
	for _, n := range used {
		if _, known := numbers[n]; !known {
			return api.Dfa{}, api.ErrName
		}
	}
	m, of := newMaker(used, names)
	t, ok := m.of(r)
	if !ok {
		return api.Dfa{}, api.ErrMany
	}
	return spread(t, of).dfa(), api.OK
}
