package taint

import (
	"slices"

	"stackyard/api"
)

// level is a group that is entered, and the state of a language from which the sites of all calls that are open, the last one first, lead to an accepting one.
type level struct{ group, state int }

// entered is a level: by how many steps, and by which call from which other one.
type entered struct {
	level
	steps int
	from  int
	call  call
	done  bool
}

// contexts finds all levels, from the program's beginning on, from calls to calls in them.
type contexts struct {
	*solver
	lang   api.Dfa
	back   [][][]int // of each site and state, from which states it leads there
	levels map[level]int
	list   []entered
	ends   []int // the levels whose calls are just a word of the language
}

func newContexts(g api.Graph, limit int, lang api.Dfa) *contexts {
	c := &contexts{solver: newSolver(g, limit), lang: lang, back: make([][][]int, len(g.Sites)), levels: map[level]int{}}
	for site := range g.Sites {
		c.back[site] = make([][]int, len(lang.Next))
		for q, row := range lang.Next {
			c.back[site][row[site]] = append(c.back[site][row[site]], q)
		}
	}
	first := c.solve()
	for q, accepts := range lang.Accept {
		if accepts {
			c.admit(level{first, q}, 0, -1, call{})
		}
	}
	for len(c.heap) > 0 {
		x := c.heap.pop()
		c.open(x.at, x.steps)
	}
	for i, x := range c.list {
		if x.state == 0 {
			c.ends = append(c.ends, i)
		}
	}
	return c
}

// admit takes note that a level is entered by so many steps, if these are fewer than known.
func (c *contexts) admit(k level, steps, from int, by call) {
	n, known := c.levels[k]
	if !known {
		n = len(c.list)
		c.levels[k] = n
		c.list = append(c.list, entered{level: k, steps: steps + 1})
	}
	if x := &c.list[n]; steps < x.steps {
		x.steps, x.from, x.call = steps, from, by
		c.heap.push(item{steps, 0, n})
	}
}

// open makes all calls of a level that is entered by no fewer steps any more.
func (c *contexts) open(n, steps int) {
	if c.list[n].done {
		return
	}
	c.list[n].done = true
	x := c.list[n]
	g := c.groups[x.group]
	for _, by := range g.calls {
		site := c.Steps[by.step].Site
		for _, q := range c.back[site][x.state] {
			c.admit(level{by.group, q}, c.sum(steps, int(g.steps[by.at]), 1), n, by)
		}
	}
}

// end is where an execution ends: in a level, at a place, behind so many steps.
type end struct{ level, at, steps int }

// marked is which variables are marked where some execution ends at a node, as bits.
func (c *contexts) marked(node int) uint64 {
	var all uint64
	for _, n := range c.ends {
		if g := c.groups[c.list[n].group]; g.proc == c.Of[node] {
			all |= g.marked[c.local[node]]
		}
	}
	return all
}

// least is the end of those with a node and a fact with the fewest steps.
func (c *contexts) least(node, fact int) (end, bool) {
	var best end
	found := false
	for _, n := range c.ends {
		x := c.list[n]
		g := c.groups[x.group]
		if g.proc != c.Of[node] {
			continue
		}
		at := c.place(node, fact)
		if g.steps[at] < 0 {
			continue
		}
		if steps := c.sum(x.steps, int(g.steps[at])); !found || steps < best.steps {
			best, found = end{n, at, steps}, true
		}
	}
	return best, found
}

// path is the moves within a group from its beginning to a place, with the calls that are over.
func (c *contexts) path(g *group, at int) []api.Move {
	var places []int
	for ; g.from[at] >= 0; at = int(g.from[at]) {
		places = append(places, at)
	}
	var l []api.Move
	for _, at := range slices.Backward(places) {
		step := int(g.by[at])
		l = append(l, api.Move{Step: step})
		if c.Steps[step].Kind != api.SCall {
			continue
		}
		_, fact := c.parts(g, int(g.from[at]))
		_, last := c.parts(g, at)
		proc := c.Sites[c.Steps[step].Site].Proc
		callee := c.groups[c.numbers[begin{proc, fact}]]
		l = append(l, c.path(callee, c.place(c.Exit[proc], last))...)
		l = append(l, api.Move{Step: -1})
	}
	return l
}

// moves are all up to an end.
func (c *contexts) moves(e end) []api.Move {
	var open []int
	for n := e.level; n >= 0; n = c.list[n].from {
		open = append(open, n)
	}
	var l []api.Move
	for i := len(open) - 2; i >= 0; i-- {
		x := c.list[open[i]]
		l = append(l, c.path(c.groups[c.list[x.from].group], x.call.at)...)
		l = append(l, api.Move{Step: x.call.step})
	}
	return append(l, c.path(c.groups[c.list[e.level].group], e.at)...)
}
