package pre

import (
	"stackyard/api"
	"stackyard/growth"
	"stackyard/pds"
	"stackyard/query"
	"stackyard/ring"
	"stackyard/weight"
	"stackyard/wfa"
)

// reader knows an automaton's transitions by where they begin.
type reader struct {
	ring.Ring
	trans []api.Trans
	from  map[head][]int
	worth map[growth.Arrow]api.Weight
}

func newReader(own api.Auto) *reader {
	r := &reader{Ring: ring.Of(own.Space), trans: own.Trans, from: map[head][]int{}, worth: map[growth.Arrow]api.Weight{}}
	for i, t := range own.Trans {
		k := head{t.From, t.Sym}
		r.from[k] = append(r.from[k], i)
		r.worth[growth.Arrow{From: t.From, Sym: t.Sym, To: t.To}] = t.W
	}
	return r
}

// closed tells whether all that follows by a rule, by whatever path, is there.
func (r *reader) closed(rule api.Rule) bool {
	level := map[int]api.Weight{rule.Q: rule.F}
	for _, g := range rule.W {
		next := map[int]api.Weight{}
		for at, w := range level {
			for _, i := range r.from[head{at, g}] {
				t := r.trans[i]
				sum, known := next[t.To]
				if !known {
					sum = r.Zero()
				}
				next[t.To] = r.Plus(sum, r.Times(w, t.W))
			}
		}
		level = next
	}
	for end, w := range level {
		there, known := r.worth[growth.Arrow{From: rule.P, Sym: rule.G, To: end}]
		if known && !r.Below(w, there) || !known && !r.IsZero(w) {
			return false
		}
	}
	return true
}

// checkFollows is query.Check, but that transitions may lead into control states.
func checkFollows(p api.Pds, a api.Auto) api.Errno {
	if e := pds.Check(p); e != api.OK {
		return e
	}
	if e := wfa.Check(a); e != api.OK {
		return e
	}
	if !weight.SameSpace(a.Space, p.Space) || a.Symbols != p.Symbols || a.States < p.States {
		return api.ErrQuery
	}
	for i := range len(a.Trans) {
		if a.Trans[i].Sym < 0 {
			return api.ErrQuery
		}
	}
	return api.OK
}

// Follows: does all that follows add nothing?
func Follows(p api.Pds, a api.Auto) (bool, api.Errno) {
	if e := checkFollows(p, a); e != api.OK {
		return false, e
	}
	own, _ := wfa.Canon(a)
	r := newReader(own)
	for _, rule := range p.Rules {
		if !r.closed(rule) {
			return false, api.OK
		}
	}
	return true, api.OK
}

// replay puts causes one by one into a table, as far as they are those of a log.
type replay struct {
	*growth.Table
	rules []api.Rule
}

// put puts a cause, if it may be one and adds something.
func (r *replay) put(c api.Cause) bool {
	if c.Rule < 0 || c.Rule >= len(r.rules) {
		return false
	}
	rule := r.rules[c.Rule]
	if c.From != rule.P || c.Sym != rule.G || len(c.Parts) != len(rule.W) {
		return false
	}
	at, w := rule.Q, rule.F
	for k, part := range c.Parts {
		if part < 0 || part >= len(r.Log) {
			return false
		}
		t := r.Log[part]
		if t.From != at || t.Sym != rule.W[k] {
			return false
		}
		at, w = t.To, r.Times(w, r.Came(part))
	}
	return at == c.To && r.Put(growth.Arrow{From: c.From, Sym: c.Sym, To: c.To}, w, c.Rule, c.Parts)
}

// Right: does a log say why an automaton is as it is?
func Right(p api.Pds, a api.Auto, s api.Saturated) (bool, int, api.Errno) {
	if e := query.Check(p, a); e != api.OK {
		return false, 0, e
	}
	auto, e := wfa.Canon(s.Auto)
	if e != api.OK {
		return false, 0, e
	}
	own, _ := wfa.Canon(a)
	r := &replay{Table: growth.New(p.Space), rules: p.Rules}
	if at := r.Begins(own, s.Log); at >= 0 {
		return false, at, api.OK
	}
	for i := len(r.Log); i < len(s.Log); i++ {
		if !r.put(s.Log[i]) {
			return false, i, api.OK
		}
	}
	if !wfa.Same(auto, r.Auto(a, a.States)) {
		return false, len(s.Log), api.OK
	}
	return true, 0, api.OK
}
