package ask

import (
	"stackyard/api"
	"stackyard/ring"
	"stackyard/weight"
)

// edge leads on, and is worth something.
type edge struct {
	to int
	w  api.Weight
}

// flow is what places are worth, each by what those are worth from which edges lead to it; ahead: an edge's weight stands ahead of what is there.
type flow struct {
	ring.Ring
	ahead bool
	out   [][]edge
	worth []api.Weight
}

func newFlow(s api.Space, places int, ahead bool) *flow {
	f := &flow{Ring: ring.Of(s), ahead: ahead, out: make([][]edge, places), worth: make([]api.Weight, places)}
	for i := range f.worth {
		f.worth[i] = f.Zero()
	}
	return f
}

// past is a weight with an edge's.
func (f *flow) past(w api.Weight, e edge) api.Weight {
	if f.ahead {
		return f.Times(e.w, w)
	}
	return f.Times(w, e.w)
}

// run goes on from places that are worth something until nothing is added.
func (f *flow) run() {
	var work []int
	waits := make([]bool, len(f.out))
	for i, w := range f.worth {
		if !f.IsZero(w) {
			work = append(work, i)
			waits[i] = true
		}
	}
	for len(work) > 0 {
		at := work[0]
		work = work[1:]
		waits[at] = false
		for _, e := range f.out[at] {
			sum := f.Plus(f.worth[e.to], f.past(f.worth[at], e))
			if weight.Same(sum, f.worth[e.to]) {
				continue
			}
			f.worth[e.to] = sum
			if !waits[e.to] {
				waits[e.to] = true
				work = append(work, e.to)
			}
		}
	}
}

// worth knows what leads to a top, and what all rests are worth behind it.
type worth struct {
	*pairs
	back  bool
	ahead *flow // the states to which transitions without symbols lead
	rests *flow // pairs, backwards from where paths end
}

func newWorth(a api.Auto, back bool, from int, d api.Dfa) *worth {
	w := &worth{pairs: newPairs(a, d), back: back}
	w.ahead = newFlow(a.Space, a.States, back)
	for _, t := range a.Trans {
		if t.Sym < 0 {
			w.ahead.out[t.From] = append(w.ahead.out[t.From], edge{t.To, t.W})
		}
	}
	w.ahead.worth[from] = w.ahead.One()
	w.ahead.run()
	for s, v := range w.ahead.worth {
		if w.ahead.IsZero(v) {
			continue
		}
		for _, i := range w.out[s] {
			if t := a.Trans[i]; t.Sym >= 0 {
				w.meet(t.To, 0)
			}
		}
	}
	w.fill()
	return w
}

// fill finds what all rests are worth, from each pair.
func (w *worth) fill() {
	var into [][]edge
	for n, k := range w.all() {
		for _, i := range w.out[k[0]] {
			t := w.auto.Trans[i]
			to := w.past(k[1], t)
			for len(into) <= to {
				into = append(into, nil)
			}
			into[to] = append(into[to], edge{n, t.W})
		}
	}
	w.rests = newFlow(w.auto.Space, len(w.list), !w.back)
	copy(w.rests.out, into)
	for i, ends := range w.ends() {
		if ends {
			w.rests.worth[i] = w.rests.One()
		}
	}
	w.rests.run()
}

// tops is what all stacks are worth together, for each top from one on to ahead of another one.
func (w *worth) tops(first, behind int) []api.Weight {
	f := w.rests
	l := make([]api.Weight, behind-first)
	for i := range l {
		l[i] = f.Zero()
	}
	for s, v := range w.ahead.worth {
		if f.IsZero(v) {
			continue
		}
		for _, i := range w.out[s] {
			t := w.auto.Trans[i]
			if t.Sym < first || t.Sym >= behind {
				continue
			}
			rest := f.worth[w.meet(t.To, 0)]
			whole := f.Times(v, t.W, rest)
			if w.back {
				whole = f.Times(rest, t.W, v)
			}
			l[t.Sym-first] = f.Plus(l[t.Sym-first], whole)
		}
	}
	return l
}
