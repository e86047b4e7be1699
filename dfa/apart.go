package dfa

// maxTests is how many words tell pairs apart at most.
const maxTests = 2 * 1024

// manyPairs is how many pairs are met before it is asked whether they are too many already; there may be very many more.
const manyPairs = 4 * 1024

// test is a word, by the states of two tables from which it is taken.
type test struct{ a, b set }

// ending is the states of a table that accept.
func (t table) ending() set {
	s := make(set, (len(t.accept)+63)/64)
	for q, accepts := range t.accept {
		if accepts {
			s.put(int32(q))
		}
	}
	return s
}

// leading is the states of a table that a symbol leads into some.
func (t table) leading(to set, sym int) set {
	s := make(set, len(to))
	for q := range t.accept {
		if to.has(t.row(q)[sym]) {
			s.put(int32(q))
		}
	}
	return s
}

// tests finds words that tell states apart, the shorter ones ahead.
func (p *pairs) tests() []test {
	l := []test{{p.a.ending(), p.b.ending()}}
	known := map[string]struct{}{l[0].a.key() + l[0].b.key(): {}}
	for i := 0; i < len(l) && len(l) < maxTests; i++ {
		for sym := range p.a.symbols {
			x := test{p.a.leading(l[i].a, sym), p.b.leading(l[i].b, sym)}
			k := x.a.key() + x.b.key()
			if _, there := known[k]; !there {
				known[k] = struct{}{}
				l = append(l, x)
			}
		}
	}
	return l
}

// tooMany tells whether more than most of the pairs that are met so far are told apart for sure: the least automaton has at least as many states.
func (p *pairs) tooMany(most int, accepts func(x, y bool) bool) bool {
	tests := p.tests()
	kinds := map[string]struct{}{}
	for _, k := range p.list {
		by := make(set, (len(tests)+63)/64)
		for i, t := range tests {
			if accepts(t.a.has(k[0]), t.b.has(k[1])) {
				by.put(int32(i))
			}
		}
		kinds[by.key()] = struct{}{}
		if len(kinds) > most {
			return true
		}
	}
	return false
}
