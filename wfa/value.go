package wfa

import (
	"stackyard/api"
	"stackyard/ring"
	"stackyard/weight"
)

// vector is what the states of an automaton are worth: those that are worth something stand in at.
type vector struct {
	at []int
	in []bool
	w  []api.Weight
}

func newVector(states int) *vector {
	return &vector{in: make([]bool, states), w: make([]api.Weight, states)}
}

// empty takes all out again.
func (v *vector) empty() {
	for _, s := range v.at {
		v.in[s] = false
	}
	v.at = v.at[:0]
}

// place is a state with a symbol, where transitions begin.
type place struct{ state, sym int }

// reader reads words by an automaton that may be.
type reader struct {
	ring.Ring
	auto  api.Auto
	back  bool
	by    map[place][]int
	at    *vector
	spare *vector
}

func newReader(a api.Auto, back bool) *reader {
	r := &reader{Ring: ring.Of(a.Space), auto: a, back: back, by: map[place][]int{}}
	r.at, r.spare = newVector(a.States), newVector(a.States)
	return r
}

// bySymbols finds transitions by where they begin and their symbols.
func (r *reader) bySymbols() {
	for i, t := range r.auto.Trans {
		k := place{t.From, t.Sym}
		r.by[k] = append(r.by[k], i)
	}
}

// byStates finds transitions by where they begin alone, as if all were without symbols.
func (r *reader) byStates() {
	for i, t := range r.auto.Trans {
		k := place{t.From, -1}
		r.by[k] = append(r.by[k], i)
	}
}

// put combines a weight into that of a state; true: it adds something.
func (r *reader) put(v *vector, s int, w api.Weight) bool {
	if !v.in[s] {
		if r.IsZero(w) {
			return false
		}
		v.in[s] = true
		v.at = append(v.at, s)
		v.w[s] = w
		return true
	}
	sum := r.Plus(v.w[s], w)
	if weight.Same(sum, v.w[s]) {
		return false
	}
	v.w[s] = sum
	return true
}

// past is what a weight is behind a transition.
func (r *reader) past(w api.Weight, t api.Trans) api.Weight {
	if r.back {
		return r.Times(t.W, w)
	}
	return r.Times(w, t.W)
}

// spread goes on by transitions without symbols until nothing is added.
func (r *reader) spread() {
	v := r.at
	work := append([]int{}, v.at...)
	waits := make(map[int]struct{}, len(work))
	for _, s := range work {
		waits[s] = struct{}{}
	}
	for len(work) > 0 {
		s := work[0]
		work = work[1:]
		delete(waits, s)
		for _, i := range r.by[place{s, -1}] {
			t := r.auto.Trans[i]
			if !r.put(v, t.To, r.past(v.w[s], t)) {
				continue
			}
			if _, there := waits[t.To]; !there {
				waits[t.To] = struct{}{}
				work = append(work, t.To)
			}
		}
	}
}

// step goes on by a symbol.
func (r *reader) step(sym int) {
	r.spare.empty()
	for _, s := range r.at.at {
		for _, i := range r.by[place{s, sym}] {
			t := r.auto.Trans[i]
			r.put(r.spare, t.To, r.past(r.at.w[s], t))
		}
	}
	r.at, r.spare = r.spare, r.at
}

// begin sets out from a state.
func (r *reader) begin(from int) {
	r.put(r.at, from, r.One())
	r.spread()
}

// end is what the final states are worth together.
func (r *reader) end() api.Weight {
	sum := r.Zero()
	for _, s := range r.auto.Final {
		if r.at.in[s] {
			sum = r.Plus(sum, r.at.w[s])
		}
	}
	return sum
}

// Value: what a word is worth from a state.
func Value(a api.Auto, back bool, from int, w ...int) (api.Weight, api.Errno) {
	if e := checkFrom(a, from); e != api.OK {
		return api.Weight{}, e
	}
	for _, sym := range w {
		if sym < 0 || sym >= a.Symbols {
			return api.Weight{}, api.ErrSym
		}
	}
	r := newReader(a, back)
	r.bySymbols()
	r.begin(from)
	for _, sym := range w {
		r.step(sym)
		r.spread()
	}
	return r.end(), api.OK
}

// Total: what all words are worth from a state.
func Total(a api.Auto, back bool, from int) (api.Weight, api.Errno) {
	if e := checkFrom(a, from); e != api.OK {
		return api.Weight{}, e
	}
	r := newReader(a, back)
	r.byStates()
	r.begin(from)
	return r.end(), api.OK
}

// Path: what a path is worth, its word, and is it accepted?
func Path(a api.Auto, back bool, from int, l ...int) (api.Weight, []int, bool, api.Errno) {
	if e := checkFrom(a, from); e != api.OK {
		return api.Weight{}, nil, false, e
	}
	r := newReader(a, back)
	w, at := r.One(), from
	var word []int
	for _, i := range l {
		if i < 0 || i >= len(a.Trans) || a.Trans[i].From != at {
			return api.Weight{}, nil, false, api.ErrRange
		}
		t := a.Trans[i]
		w, at = r.past(w, t), t.To
		if t.Sym >= 0 {
			word = append(word, t.Sym)
		}
	}
	accepted := false
	for _, s := range a.Final {
		accepted = accepted || s == at
	}
	return w, word, accepted, api.OK
}
