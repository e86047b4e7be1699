package nfa

import (
	"stackyard/api"
	"stackyard/regex"
	"stackyard/symbols"
)

// builder makes an automaton of an expression: names tells their numbers; over: there is more than may be.
type builder struct {
	api.Nfa
	names map[string]int
	over  bool
}

// state is a new one.
func (b *builder) state() int {
	if b.States == api.MaxStates {
		b.over = true
		return 0
	}
	b.States++
	return b.States - 1
}

func (b *builder) arc(from, sym, to int) {
	if len(b.Arcs) == api.MaxTrans {
		b.over = true
		return
	}
	b.Arcs = append(b.Arcs, api.Arc{From: from, Sym: sym, To: to})
}

// seq lays Kids one behind the other.
func (b *builder) seq(kids []api.Regex, from, to int) {
	last := len(kids) - 1
	for _, k := range kids[:last] {
		next := b.state()
		b.lay(k, from, next)
		from = next
	}
	b.lay(kids[last], from, to)
}

// aside lays a Kid between two new states, to the first of which an arc leads.
func (b *builder) aside(k api.Regex, from int) (int, int) {
	first, second := b.state(), b.state()
	b.arc(from, noSymbol, first)
	b.lay(k, first, second)
	return first, second
}

// not lays the words that are none of an expression's.
func (b *builder) not(k api.Regex, from, to int) {
	d, e := of(k, b.names)
	if e != api.OK {
		b.over = true
		return
	}
	first := b.States
	for range d.Next {
		b.state()
	}
	if b.over {
		return
	}
	b.arc(from, noSymbol, first)
	for s, row := range d.Next {
		for sym, next := range row {
			b.arc(first+s, sym, first+next)
		}
	}
	for s, accepts := range d.Accept {
		if !accepts {
			b.arc(first+s, noSymbol, to)
		}
	}
}

// lay makes an expression from a state to another one.
func (b *builder) lay(r api.Regex, from, to int) {
	if b.over {
		return
	}
	sym := noSymbol
	switch r.Op {
	case api.RName:
		if n, known := b.names[r.Name]; known {
			b.arc(from, n, to)
		}
	case api.RAny:
		sym = anySymbol
		fallthrough
	case api.REmpty:
		b.arc(from, sym, to)
	case api.RSeq:
		b.seq(r.Kids, from, to)
	case api.RAlt:
		for _, k := range r.Kids {
			_, second := b.aside(k, from)
			b.arc(second, noSymbol, to)
		}
	case api.RStar:
		first, second := b.aside(r.Kids[0], from)
		b.arc(second, noSymbol, first)
		b.arc(first, noSymbol, to)
	case api.RNot:
		b.not(r.Kids[0], from, to)
	}
}

// made is the automaton of an expression that may be; false: it is too great.
func made(r api.Regex, names map[string]int) (api.Nfa, bool) {
	b := builder{names: names}
	b.Symbols = len(names)
	b.Start, b.End = b.state(), b.state()
	b.lay(r, b.Start, b.End)
	return b.Nfa, !b.over
}

// of is the deterministic automaton of an expression that may be.
func of(r api.Regex, names map[string]int) (api.Dfa, api.Errno) {
	a, ok := made(r, names)
	if !ok {
		return api.Dfa{}, api.ErrMany
	}
	return Dfa(a)
}

// Build: the automaton of an expression.
func Build(r api.Regex, names ...string) (api.Nfa, api.Errno) {
	if e := regex.Check(r); e != api.OK {
		return api.Nfa{}, e
	}
	numbers, ok := symbols.Number(names)
	if !ok || len(names) > api.MaxSymbols {
		return api.Nfa{}, api.ErrNames
	}
	a, ok := made(r, numbers)
	if !ok {
		return api.Nfa{}, api.ErrMany
	}
	return a, api.OK
}
