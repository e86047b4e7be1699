package pre

import (
	"stackyard/api"
	"stackyard/growth"
)

// search looks for paths of a longer rule that add something. There may be very many paths; so it goes only where, with all that can come behind, something is still added.
type search struct {
	*saturator
	rule  int
	goal  growth.Arrow
	rests []map[int]api.Weight // of each place in the rule's word, what all paths on to the goal are worth, by states
	path  []int                // the causes up to which the transitions gone by count
}

// layers is which states paths of a rule come to, behind each of its symbols.
func (s *saturator) layers(rule int) [][]int {
	r := s.pds.Rules[rule]
	l := [][]int{{r.Q}}
	for k, g := range r.W {
		met := map[int]struct{}{}
		var next []int
		for _, at := range l[k] {
			for _, n := range s.From(at, g) {
				to := s.List[n].To
				if _, known := met[to]; !known {
					met[to] = struct{}{}
					next = append(next, to)
				}
			}
		}
		l = append(l, next)
	}
	return l
}

// restsTo is what all paths on to a state are worth, from each place of a rule's word.
func (s *saturator) restsTo(rule, end int, layers [][]int) []map[int]api.Weight {
	word := s.pds.Rules[rule].W
	rests := make([]map[int]api.Weight, len(layers))
	rests[len(word)] = map[int]api.Weight{end: s.One()}
	for k := len(word) - 1; k >= 0; k-- {
		rests[k] = map[int]api.Weight{}
		for _, at := range layers[k] {
			sum, any := s.Zero(), false
			for _, n := range s.From(at, word[k]) {
				if rest, leads := rests[k+1][s.List[n].To]; leads {
					sum, any = s.Plus(sum, s.Times(s.List[n].W, rest)), true
				}
			}
			if any {
				rests[k][at] = sum
			}
		}
	}
	return rests
}

// adds tells whether a weight adds something to what the goal comes to.
func (x *search) adds(w api.Weight) bool {
	n, known := x.Find(x.goal)
	if known {
		return !x.Below(w, x.List[n].W)
	}
	return !x.IsZero(w)
}

// walk goes on from a state behind k symbols, with what the rule and the path are worth so far.
func (x *search) walk(at, k int, w api.Weight) {
	rest, leads := x.rests[k][at]
	if !leads || !x.adds(x.Times(w, rest)) {
		return
	}
	word := x.pds.Rules[x.rule].W
	if k == len(word) {
		x.Put(x.goal, w, x.rule, append([]int{}, x.path...))
		return
	}
	for _, n := range x.From(at, word[k]) {
		t := x.List[n]
		x.path = append(x.path, t.Last)
		x.walk(t.To, k+1, x.Times(w, t.W))
		x.path = x.path[:k]
	}
}

// search puts all that follows by a longer rule as transitions are now.
func (s *saturator) search(rule int) {
	r := s.pds.Rules[rule]
	layers := s.layers(rule)
	for _, end := range layers[len(r.W)] {
		x := search{saturator: s, rule: rule, goal: growth.Arrow{From: r.P, Sym: r.G, To: end}}
		x.rests = s.restsTo(rule, end, layers)
		x.walk(r.Q, 0, r.F)
	}
}
