package query

import (
	"iter"
	"slices"

	"stackyard/api"
)

// place is where a path may stand: a state, and in which part of pairs its transitions have all been worth something. (Extended part by part such a path is worth something just if one part is all along.)
type place struct{ state, part int }

// edge is a transition to a place.
type edge struct {
	sym int
	to  place
}

// finder finds words of accepted paths that are worth something.
type finder struct {
	parts int
	out   map[place][]edge
	near  []map[place]struct{} // the places from which just so many symbols lead to an end
}

// worthless tells of a weight in which parts it is Zero.
func worthless(w api.Weight, part int) bool {
	if len(w.Parts) > 0 {
		return w.Parts[part].Zero
	}
	return w.Zero
}

func newFinder(a api.Auto, n int) *finder {
	f := &finder{parts: 1, out: map[place][]edge{}}
	if a.Space.Tag == api.Pair {
		f.parts = 2
	}
	back := map[place][]place{}
	for part := range f.parts {
		for _, t := range a.Trans {
			if worthless(t.W, part) {
				continue
			}
			from, to := place{t.From, part}, place{t.To, part}
			f.out[from] = append(f.out[from], edge{t.Sym, to})
			back[to] = append(back[to], from)
		}
	}
	ends := map[place]struct{}{}
	for _, s := range a.Final {
		for part := range f.parts {
			ends[place{s, part}] = struct{}{}
		}
	}
	f.near = append(f.near, ends)
	for i := range n {
		level := map[place]struct{}{}
		for to := range f.near[i] {
			for _, from := range back[to] {
				level[from] = struct{}{}
			}
		}
		f.near = append(f.near, level)
	}
	return f
}

// start is the places of a state from which just so many symbols lead to an end.
func (f *finder) start(state, n int) []place {
	var l []place
	for part := range f.parts {
		if _, ok := f.near[n][place{state, part}]; ok {
			l = append(l, place{state, part})
		}
	}
	return l
}

// next is where each symbol leads from some places, with so many symbols left then.
func (f *finder) next(at []place, left int) map[int][]place {
	by := map[int][]place{}
	met := map[edge]struct{}{}
	for _, x := range at {
		for _, e := range f.out[x] {
			_, leads := f.near[left][e.to]
			_, known := met[e]
			if leads && !known {
				met[e] = struct{}{}
				by[e.sym] = append(by[e.sym], e.to)
			}
		}
	}
	return by
}

// words tells all words of so many symbols from some places, the lesser ones ahead; false: nobody wants more.
func (f *finder) words(at []place, word []int, left int, yield func([]int) bool) bool {
	if len(at) == 0 {
		return true
	}
	if left == 0 {
		return yield(word)
	}
	by := f.next(at, left-1)
	var syms []int
	for sym := range by {
		syms = append(syms, sym)
	}
	slices.Sort(syms)
	for _, sym := range syms {
		if !f.words(by[sym], append(word, sym), left-1, yield) {
			return false
		}
	}
	return true
}

// found tells all configurations of so many control states with at most n symbols that are worth something, in order.
func (f *finder) found(states, n int) iter.Seq[api.Conf] {
	return func(yield func(api.Conf) bool) {
		for p := range states {
			for length := range n + 1 {
				tell := func(w []int) bool { return yield(api.Conf{P: p, W: slices.Clone(w)}) }
				if !f.words(f.start(p, length), nil, length, tell) {
					return
				}
			}
		}
	}
}

// List: the configurations that are worth something: the same ones, whichever way values are read.
func List(p api.Pds, a api.Auto, _ bool, n, most int) ([]api.Conf, api.Errno) {
	if e := Check(p, a); e != api.OK {
		return nil, e
	}
	if n < 0 || n > 100 || most < 1 || most > 100000 {
		return nil, api.ErrArg
	}
	var l []api.Conf
	for c := range newFinder(a, n).found(p.States, n) {
		if len(l) == most {
			return nil, api.ErrMany
		}
		l = append(l, c)
	}
	return l, api.OK
}
