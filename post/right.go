package post

import (
	"stackyard/api"
	"stackyard/growth"
	"stackyard/ring"
	"stackyard/weight"
	"stackyard/wfa"
)

// reader knows an automaton's transitions by where they begin.
type reader struct {
	ring.Ring
	shape
	trans []api.Trans
	from  map[top][]int
	worth map[growth.Arrow]api.Weight
}

func newReader(p api.Pds, own api.Auto) *reader {
	r := &reader{Ring: ring.Of(p.Space), shape: newShape(p, own.States-len(mids(p))), trans: own.Trans, from: map[top][]int{}, worth: map[growth.Arrow]api.Weight{}}
	for i, t := range own.Trans {
		k := top{t.From, t.Sym}
		r.from[k] = append(r.from[k], i)
		r.worth[growth.Arrow{From: t.From, Sym: t.Sym, To: t.To}] = t.W
	}
	return r
}

// holds tells whether all that follows by a rule by a path to a state, of a weight, is there.
func (r *reader) holds(rule, end int, w api.Weight) bool {
	w = r.Times(w, r.rules[rule].F)
	if r.IsZero(w) {
		return true
	}
	for _, f := range r.follows(rule, end) {
		counts := w
		if f.one {
			counts = r.One()
		}
		there, known := r.worth[f.Arrow]
		if !known || !r.Below(counts, there) {
			return false
		}
	}
	return true
}

// closed tells whether all that follows by a rule is there.
func (r *reader) closed(number int) bool {
	rule := r.rules[number]
	for _, i := range r.from[top{rule.P, rule.G}] {
		if t := r.trans[i]; !r.holds(number, t.To, t.W) {
			return false
		}
	}
	for _, e := range r.from[top{rule.P, -1}] {
		for _, i := range r.from[top{r.trans[e].To, rule.G}] {
			if t := r.trans[i]; !r.holds(number, t.To, r.Times(t.W, r.trans[e].W)) {
				return false
			}
		}
	}
	return true
}

// Follows tells whether all that follows in an automaton is there.
func Follows(p api.Pds, a api.Auto) (bool, api.Errno) {
	if e := checkShort(p); e != api.OK {
		return false, e
	}
	own, e := wfa.Canon(a)
	if e != api.OK {
		return false, e
	}
	if !weight.SameSpace(a.Space, p.Space) || a.Symbols != p.Symbols || a.States < p.States+len(mids(p)) {
		return false, api.ErrQuery
	}
	r := newReader(p, own)
	for i := range p.Rules {
		if !r.closed(i) {
			return false, api.OK
		}
	}
	return true, api.OK
}

// replay puts causes one by one into a table, as far as they are right.
type replay struct {
	*growth.Table
	shape
}

// path tells where the path of a cause's Parts ends, if it is one of its rule, and what it is worth, read backwards.
func (r *replay) path(c api.Cause) (int, api.Weight, bool) {
	rule := r.rules[c.Rule]
	if len(c.Parts) < 1 || len(c.Parts) > 2 {
		return 0, api.Weight{}, false
	}
	at, w := rule.P, r.One()
	for i, part := range c.Parts {
		if part < 0 || part >= len(r.Log) {
			return 0, api.Weight{}, false
		}
		sym := rule.G
		if i < len(c.Parts)-1 {
			sym = -1
		}
		t := r.Log[part]
		if t.From != at || t.Sym != sym {
			return 0, api.Weight{}, false
		}
		at, w = t.To, r.Times(r.Came(part), w)
	}
	return at, w, true
}

// put puts a cause, if it is right.
func (r *replay) put(c api.Cause) bool {
	if c.Rule < 0 || c.Rule >= len(r.rules) {
		return false
	}
	end, w, ok := r.path(c)
	if !ok {
		return false
	}
	w = r.Times(w, r.rules[c.Rule].F)
	if r.IsZero(w) {
		return false
	}
	for _, f := range r.follows(c.Rule, end) {
		if (f.Arrow != growth.Arrow{From: c.From, Sym: c.Sym, To: c.To}) {
			continue
		}
		if f.one {
			w = r.One()
		}
		return r.Put(f.Arrow, w, c.Rule, c.Parts)
	}
	return false
}

// Right tells whether a log is one of an automaton; else the first cause that is wrong.
func Right(p api.Pds, a api.Auto, s api.Saturated) (bool, int, api.Errno) {
	if e := check(p, a); e != api.OK {
		return false, 0, e
	}
	auto, e := wfa.Canon(s.Auto)
	if e != api.OK {
		return false, 0, e
	}
	own, _ := wfa.Canon(a)
	r := &replay{Table: growth.New(p.Space), shape: newShape(p, a.States)}
	if at := r.Begins(own, s.Log); at >= 0 {
		return false, at, api.OK
	}
	for i := len(r.Log); i < len(s.Log); i++ {
		if !r.put(s.Log[i]) {
			return false, i, api.OK
		}
	}
	if !wfa.Same(auto, r.Auto(a, a.States+len(mids(p)))) {
		return false, len(s.Log), api.OK
	}
	return true, 0, api.OK
}
