package samples

import (
	"strconv"

	"stackyard/api"
)

// writer writes statements of a program over the variables x and y and the procedures main and f.
type writer struct {
	*Dice
	points int
}

// variable is one of a program's.
func (w *writer) variable() string { return []string{"x", "y"}[w.Below(2)] }

// statement is one with blocks no deeper than deep.
func (w *writer) statement(deep int) api.Stmt {
	s := api.Stmt{Kind: api.StmtKind(1 + w.Below(12)), X: w.variable()}
	switch s.Kind {
	case api.SSet:
		s.K = int64(w.Below(3))
	case api.SCopy:
		s.Y = w.variable()
	case api.SCall:
		s.X = []string{"main", "f"}[w.Below(2)]
	case api.SAt:
		w.points++
		s.X = "p" + strconv.Itoa(w.points)
	case api.SEither:
		s = api.Stmt{Kind: s.Kind, Kids: [][]api.Stmt{w.block(deep - 1), w.block(deep - 1)}}
	case api.SLoop:
		s = api.Stmt{Kind: s.Kind, Kids: [][]api.Stmt{w.block(deep - 1)}}
	case api.SSkip, api.SReturn:
		s = api.Stmt{Kind: s.Kind}
	}
	return s
}

// block is some statements; none, if it would lie too deep.
func (w *writer) block(deep int) []api.Stmt {
	var l []api.Stmt
	if deep == 0 {
		return l
	}
	for range w.Below(4) {
		l = append(l, w.statement(deep))
	}
	return l
}

// Program is a small one, with points, sinks and calls.
func (d *Dice) Program() api.Program {
	w := &writer{Dice: d}
	return api.Program{Vars: []string{"x", "y"}, Procs: []api.Proc{{Name: "main", Body: w.block(3)}, {Name: "f", Body: w.block(3)}}}
}
