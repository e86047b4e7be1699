package taint

import "stackyard/api"

// begin is a procedure, and what holds where it is entered.
type begin struct{ proc, fact int }

// call is a place in a group from which a procedure is called: by a step, into another group.
type call struct{ at, step, group int }

// caller is a place in a group that waits for another group's end.
type caller struct{ group, at, step int }

// exit is what holds at the end of a procedure, and by how many steps.
type exit struct{ fact, steps int }

// group is what is reached in one procedure from one beginning, calls passed over: of each place (a node of the procedure, and a fact) by how many steps (below 0: none), from which place, by which step; of each node which variables are marked in some place of it, as bits.
type group struct {
	begin
	steps, from, by []int32
	done            []bool
	marked          []uint64
	calls           []call
	callers         []caller
	exits           []exit
}

// solver finds all groups that are reached; what is known of a procedure stands in a map by its beginnings.
type solver struct {
	api.Graph
	limit   int
	facts   int
	out     [][]int // the steps from each node
	local   []int   // of each node its number in its procedure
	nodes   [][]int // the nodes of each procedure
	numbers map[begin]int
	groups  []*group
	heap    heap
}

func newSolver(g api.Graph, limit int) *solver {
	s := &solver{Graph: g, limit: limit, facts: factOf(len(g.Vars)), out: make([][]int, len(g.Of)), local: make([]int, len(g.Of)), nodes: make([][]int, len(g.Procs)), numbers: map[begin]int{}}
	for i, x := range g.Steps {
		s.out[x.From] = append(s.out[x.From], i)
	}
	for node, proc := range g.Of {
		s.local[node] = len(s.nodes[proc])
		s.nodes[proc] = append(s.nodes[proc], node)
	}
	return s
}

// sum is of steps, cut at the limit.
func (s *solver) sum(l ...int) int {
	n := 0
	for _, x := range l {
		n += x
	}
	return min(n, s.limit)
}

// place is a node and a fact as one number in its procedure.
func (s *solver) place(node, fact int) int { return s.local[node]*s.facts + fact }

// parts is the node and the fact of a place.
func (s *solver) parts(g *group, at int) (int, int) {
	return s.nodes[g.proc][at/s.facts], at % s.facts
}

// group is the number of that with a beginning, which sets out if it is new. (It is found late, but its own steps are counted from its beginning; so it catches up before others go on.)
func (s *solver) group(b begin) int {
	n, known := s.numbers[b]
	if known {
		return n
	}
	n = len(s.groups)
	s.numbers[b] = n
	size := len(s.nodes[b.proc]) * s.facts
	g := &group{begin: b, steps: make([]int32, size), from: make([]int32, size), by: make([]int32, size), done: make([]bool, size), marked: make([]uint64, len(s.nodes[b.proc]))}
	for i := range size {
		g.steps[i] = -1
	}
	s.groups = append(s.groups, g)
	s.reach(n, s.place(s.Entry[b.proc], b.fact), 0, -1, -1)
	return n
}

// reach takes note that a place is reached by so many steps, if these are fewer than known.
func (s *solver) reach(n, at, steps, from, by int) {
	g := s.groups[n]
	if g.steps[at] >= 0 && int(g.steps[at]) <= steps {
		return
	}
	g.steps[at], g.from[at], g.by[at] = int32(steps), int32(from), int32(by)
	s.heap.push(item{steps, n, at})
}

// resume goes on behind a call that is over.
func (s *solver) resume(c caller, e exit) {
	g := s.groups[c.group]
	back := s.place(s.Steps[c.step].To, e.fact)
	s.reach(c.group, back, s.sum(int(g.steps[c.at]), 1, e.steps, 1), c.at, c.step)
}

// enter calls a procedure from a place.
func (s *solver) enter(x item, step, fact int) {
	n := s.group(begin{s.Sites[s.Steps[step].Site].Proc, fact})
	g := s.groups[x.group]
	g.calls = append(g.calls, call{x.at, step, n})
	c := caller{x.group, x.at, step}
	callee := s.groups[n]
	callee.callers = append(callee.callers, c)
	for _, e := range callee.exits {
		s.resume(c, e)
	}
}

// leave tells all that wait that a procedure is over.
func (s *solver) leave(g *group, e exit) {
	g.exits = append(g.exits, e)
	for _, c := range g.callers {
		s.resume(c, e)
	}
}

// work goes on from a place that is reached by no fewer steps any more.
func (s *solver) work(x item) {
	g := s.groups[x.group]
	if g.done[x.at] {
		return
	}
	g.done[x.at] = true
	node, fact := s.parts(g, x.at)
	if fact != nothing {
		g.marked[s.local[node]] |= bitOf(fact)
	}
	if node == s.Exit[g.proc] {
		s.leave(g, exit{fact, x.steps})
	}
	for _, i := range s.out[node] {
		t := s.Steps[i]
		if t.Kind == api.SCall {
			s.enter(x, i, fact)
			continue
		}
		for _, f := range behind(t, fact) {
			s.reach(x.group, s.place(t.To, f), s.sum(x.steps, 1), x.at, i)
		}
	}
}

// solve finds all groups that are reached from the program's beginning, the first of all, and tells its number.
func (s *solver) solve() int {
	first := s.group(begin{s.Main, nothing})
	for len(s.heap) > 0 {
		s.work(s.heap.pop())
	}
	return first
}
