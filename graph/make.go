package graph

import (
	"strconv"

	"stackyard/api"
	"stackyard/syntax"
)

// fault is what is wrong with a program, and where.
type fault struct {
	spot  api.Spot
	errno api.Errno
}

// nowhere is the spot of what is wrong with a whole program.
func nowhere() api.Spot { return api.Spot{Proc: -1, Stmt: -1} }

// maker makes a graph: names' numbers stand in maps; stmts is how many statements of the procedure at hand are gone through.
type maker struct {
	graph  api.Graph
	vars   map[string]int
	procs  map[string]int
	sites  map[string]int
	points map[string]int
	proc   int
	stmts  int
}

// fail stops the making at the statement at hand.
func (m *maker) fail(e api.Errno) {
	panic(fault{api.Spot{Proc: m.proc, Stmt: m.stmts}, e})
}

// numbered gives names their numbers; it fails at the first that is there already.
func numbered(names []string, spot func(int) api.Spot) map[string]int {
	numbers := map[string]int{}
	for i, n := range names {
		if _, known := numbers[n]; known {
			panic(fault{spot(i), api.ErrSame})
		}
		numbers[n] = i
	}
	return numbers
}

// node is a new one of the procedure at hand.
func (m *maker) node() int {
	m.graph.Of = append(m.graph.Of, m.proc)
	return len(m.graph.Of) - 1
}

func (m *maker) step(s api.Step) { m.graph.Steps = append(m.graph.Steps, s) }

// skip puts a step that does nothing.
func (m *maker) skip(from, to int) { m.step(api.Step{From: from, To: to, Kind: api.SSkip}) }

// number is that of a name, which has to be known.
func (m *maker) number(numbers map[string]int, name string) int {
	n, known := numbers[name]
	if !known {
		m.fail(api.ErrUnknown)
	}
	return n
}

// fresh takes a name that nothing has yet.
func (m *maker) fresh(numbers map[string]int, name string) {
	if _, known := numbers[name]; known {
		m.fail(api.ErrSame)
	}
	numbers[name] = len(numbers)
}

// call puts the step and the site of a call.
func (m *maker) call(s api.Stmt, from int) int {
	site := len(m.graph.Sites)
	proc := m.number(m.procs, s.X)
	name := s.Y
	if name == "" {
		name = m.graph.Procs[m.proc] + "_" + strconv.Itoa(site)
	}
	m.fresh(m.sites, name)
	to := m.node()
	m.graph.Sites = append(m.graph.Sites, api.Site{Name: name, Proc: proc, From: from, Back: to})
	m.step(api.Step{From: from, To: to, Kind: api.SCall, Site: site})
	return to
}

// change puts the step of a statement that does something to variables, or nothing.
func (m *maker) change(s api.Stmt, from int) int {
	t := api.Step{From: from, Kind: s.Kind, K: s.K}
	switch s.Kind {
	case api.SCopy:
		t.X, t.Y = m.number(m.vars, s.X), m.number(m.vars, s.Y)
	case api.SSet, api.SAny, api.SMark, api.SClean:
		t.X = m.number(m.vars, s.X)
	}
	t.To = m.node()
	m.step(t)
	return t.To
}

// branch lays what has blocks, or leaves the procedure.
func (m *maker) branch(s api.Stmt, from int, lay func([]api.Stmt, int) int) int {
	m.stmts++
	switch s.Kind {
	case api.SEither:
		var ends []int
		for _, kid := range s.Kids {
			ends = append(ends, lay(kid, from))
		}
		to := m.node()
		for _, end := range ends {
			m.skip(end, to)
		}
		return to
	case api.SLoop:
		to := m.node()
		m.skip(from, to)
		m.skip(lay(s.Kids[0], to), to)
		return to
	}
	m.skip(from, m.graph.Exit[m.proc])
	return m.node()
}

// statement lays one from a node, and tells where it ends.
func (m *maker) statement(s api.Stmt, from int, lay func([]api.Stmt, int) int) int {
	to := from
	switch s.Kind {
	case api.SEither, api.SLoop, api.SReturn:
		return m.branch(s, from, lay)
	case api.SSink:
		m.graph.Sinks = append(m.graph.Sinks, api.Sink{X: m.number(m.vars, s.X), Node: from})
	case api.SAt:
		m.fresh(m.points, s.X)
		m.graph.Points = append(m.graph.Points, api.Point{Name: s.X, Node: from})
	case api.SCall:
		to = m.call(s, from)
	default:
		to = m.change(s, from)
	}
	m.stmts++
	return to
}

// body lays a procedure.
func (m *maker) body(p api.Proc) {
	entry, exit := m.node(), m.node()
	m.graph.Entry = append(m.graph.Entry, entry)
	m.graph.Exit = append(m.graph.Exit, exit)
	var lay func(l []api.Stmt, from int) int
	lay = func(l []api.Stmt, from int) int {
		for _, s := range l {
			from = m.statement(s, from, lay)
		}
		return from
	}
	m.skip(lay(p.Body, entry), exit)
}

// whole lays a program; it panics with a fault.
func (m *maker) whole(p api.Program) {
	m.graph.Vars = append(m.graph.Vars, p.Vars...)
	for _, proc := range p.Procs {
		m.graph.Procs = append(m.graph.Procs, proc.Name)
	}
	m.vars = numbered(m.graph.Vars, func(i int) api.Spot { return api.Spot{Proc: -1, Stmt: i} })
	m.procs = numbered(m.graph.Procs, func(i int) api.Spot { return api.Spot{Proc: i, Stmt: -1} })
	main, known := m.procs["main"]
	if !known {
		panic(fault{nowhere(), api.ErrUnknown})
	}
	m.graph.Main = main
	m.sites, m.points = map[string]int{}, map[string]int{}
	for i, proc := range p.Procs {
		m.proc, m.stmts = i, 0
		m.body(proc)
	}
	g := m.graph
	if len(g.Vars) > api.MaxBits || len(g.Procs) > api.MaxSites || len(g.Sites) > api.MaxSites || len(g.Of) > api.MaxGraph {
		panic(fault{nowhere(), api.ErrDims})
	}
}

// Make is a program's graph; with an error the spot.
func Make(p api.Program) (g api.Graph, spot api.Spot, e api.Errno) {
	if e := syntax.Check(p); e != api.OK {
		return api.Graph{}, nowhere(), e
	}
	defer func() {
		got := recover()
		f, ok := got.(fault)
		if ok {
			g, spot, e = api.Graph{}, f.spot, f.errno
		} else if got != nil {
			panic(got)
		}
	}()
	var m maker
	m.whole(p)
	return m.graph, api.Spot{}, api.OK
}
