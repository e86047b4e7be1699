package regex

import "stackyard/api"

// maxNames is how many names a word has at most that is matched.
const maxNames = 100

// row is a set of places in a word.
type row [2]uint64

func (r *row) put(i int) { r[i/64] |= 1 << uint(i%64) }

func (r row) has(i int) bool { return r[i/64]>>uint(i%64)&1 == 1 }

func (r *row) join(o row) {
	r[0] |= o[0]
	r[1] |= o[1]
}

// spans tells for each place of a word at which places words of an expression that begin there end.
type spans []row

// matcher finds the spans of expressions in a word.
type matcher struct{ word []string }

// empty is the spans of the empty word.
func (m matcher) empty() spans {
	s := make(spans, len(m.word)+1)
	for i := range s {
		s[i].put(i)
	}
	return s
}

// then is spans of which one goes on where the other one ended.
func then(a, b spans) spans {
	out := make(spans, len(a))
	for i := range a {
		for j := i; j < len(a); j++ {
			if a[i].has(j) {
				out[i].join(b[j])
			}
		}
	}
	return out
}

// star is any number of spans, one behind the other: from each place, later ones first, as those go on that end later.
func (m matcher) star(a spans) spans {
	out := m.empty()
	for i := len(a) - 1; i >= 0; i-- {
		for j := i + 1; j < len(a); j++ {
			if a[i].has(j) {
				out[i].join(out[j])
			}
		}
	}
	return out
}

// names is the spans of one name of the word; any if the expression is of any.
func (m matcher) names(r api.Regex) spans {
	s := make(spans, len(m.word)+1)
	for i, n := range m.word {
		if r.Op == api.RAny || n == r.Name {
			s[i].put(i + 1)
		}
	}
	return s
}

// other is all spans that are none of some.
func other(a spans) spans {
	out := make(spans, len(a))
	for i := range a {
		for j := i; j < len(a); j++ {
			if !a[i].has(j) {
				out[i].put(j)
			}
		}
	}
	return out
}

// of is the spans of an expression that may be.
func (m matcher) of(r api.Regex) spans {
	switch r.Op {
	case api.RName, api.RAny:
		return m.names(r)
	case api.REmpty:
		return m.empty()
	case api.RSeq:
		out := m.of(r.Kids[0])
		for _, k := range r.Kids[1:] {
			out = then(out, m.of(k))
		}
		return out
	case api.RAlt:
		out := m.of(r.Kids[0])
		for _, k := range r.Kids[1:] {
			for i, s := range m.of(k) {
				out[i].join(s)
			}
		}
		return out
	case api.RStar:
		return m.star(m.of(r.Kids[0]))
	case api.RNot:
		return other(m.of(r.Kids[0]))
	}
	return make(spans, len(m.word)+1)
}

// Match tells whether a word is one of an expression.
func Match(r api.Regex, word ...string) (bool, api.Errno) {
	if e := Check(r); e != api.OK {
		return false, e
	}
	if len(word) > maxNames {
		return false, api.ErrMany
	}
	return matcher{word}.of(r)[0].has(len(word)), api.OK
}
