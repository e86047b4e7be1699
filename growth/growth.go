// Package growth is transitions that come to more and more, with a log of causes: what saturation, either way, works on, and what a log is replayed into.
package growth

import (
	"cmp"
	"slices"

	"stackyard/api"
	"stackyard/ring"
)

// Arrow is a transition without its weight.
type Arrow struct{ From, Sym, To int }

// Entry is a transition: what it comes to so far, and by which cause last.
type Entry struct {
	Arrow
	W     api.Weight
	Last  int
	waits bool
}

// start is where transitions begin: a state, and the symbol they have.
type start struct{ state, sym int }

// Table holds transitions by numbers, as they came; and what is still to be done with them.
type Table struct {
	ring.Ring
	List    []Entry
	Log     []api.Cause
	came    []api.Weight
	numbers map[Arrow]int
	by      map[start][]int
	work    []int
}

// New is a table without transitions.
func New(s api.Space) *Table {
	return &Table{Ring: ring.Of(s), numbers: map[Arrow]int{}, by: map[start][]int{}}
}

// Find is the number of a transition.
func (t *Table) Find(a Arrow) (int, bool) {
	n, known := t.numbers[a]
	return n, known
}

// From are the numbers of the transitions from a state by a symbol.
func (t *Table) From(state, sym int) []int { return t.by[start{state, sym}] }

// Came is what a cause comes to.
func (t *Table) Came(cause int) api.Weight { return t.came[cause] }

// Put logs a cause that counts a weight, if it adds something to its transition.
func (t *Table) Put(a Arrow, w api.Weight, rule int, parts []int) bool {
	n, known := t.numbers[a]
	switch {
	case !known && t.IsZero(w), known && t.Below(w, t.List[n].W):
		return false
	case known:
		t.List[n].W = t.Plus(t.List[n].W, w)
	default:
		n = len(t.List)
		t.numbers[a] = n
		k := start{a.From, a.Sym}
		t.by[k] = append(t.by[k], n)
		t.List = append(t.List, Entry{Arrow: a, W: w})
	}
	e := &t.List[n]
	e.Last = len(t.Log)
	t.Log = append(t.Log, api.Cause{From: a.From, Sym: a.Sym, To: a.To, Rule: rule, Parts: parts})
	t.came = append(t.came, e.W)
	if !e.waits {
		e.waits = true
		t.work = append(t.work, n)
	}
	return true
}

// Give puts all transitions of a query in its own form.
func (t *Table) Give(a api.Auto) {
	for _, x := range a.Trans {
		t.Put(Arrow{x.From, x.Sym, x.To}, x.W, -1, nil)
	}
}

// Taker makes a function that tells the number of a transition with which something is to be done, as long as there is one: the oldest, or as picks say.
func (t *Table) Taker(picks []int) func() (int, bool) {
	done := 0
	return func() (int, bool) {
		left := len(t.work)
		if left == 0 {
			return 0, false
		}
		n := t.work[0]
		if done < len(picks) {
			at := (picks[done]%left + left) % left
			n = t.work[at]
			t.work = slices.Delete(t.work, at, at+1)
			done++
		} else {
			t.work = t.work[1:]
		}
		t.List[n].waits = false
		return n, true
	}
}

// Auto is all transitions as an automaton in its own form (however many they are), which is else like another one, with so many states.
func (t *Table) Auto(like api.Auto, states int) api.Auto {
	out := api.Auto{Space: ring.CopySpace(like.Space), States: states, Symbols: like.Symbols, Final: slices.Clone(like.Final)}
	for _, e := range t.List {
		out.Trans = append(out.Trans, api.Trans{From: e.From, Sym: e.Sym, To: e.To, W: t.Copy(e.W)})
	}
	slices.SortFunc(out.Trans, func(x, y api.Trans) int {
		return cmp.Or(cmp.Compare(x.From, y.From), cmp.Compare(x.Sym, y.Sym), cmp.Compare(x.To, y.To))
	})
	return out
}

// Begins puts what a query in its own form gives, and tells at which cause a log begins otherwise; below 0: at none.
func (t *Table) Begins(a api.Auto, log []api.Cause) int {
	t.Give(a)
	for i, c := range t.Log {
		if i == len(log) {
			return i
		}
		d := log[i]
		if (Arrow{d.From, d.Sym, d.To} != Arrow{c.From, c.Sym, c.To}) || d.Rule != -1 || len(d.Parts) > 0 {
			return i
		}
	}
	return -1
}
