package syntax

import (
	"stackyard/api"
	"stackyard/words"
)

// fault is where a text goes on as no program does.
type fault struct{ line, col int }

// tokens are those that are left; and where the text ends.
type tokens struct {
	left []api.Token
	end  fault
}

// fail stops the reading at the next token.
func (t *tokens) fail() {
	if len(t.left) == 0 {
		panic(t.end)
	}
	panic(fault{t.left[0].Line, t.left[0].Col})
}

// next is the next token's text; empty behind the last one.
func (t *tokens) next() string {
	if len(t.left) == 0 {
		return ""
	}
	return t.left[0].Text
}

// drop goes on behind the next token.
func (t *tokens) drop() { t.left = t.left[1:] }

// take goes on behind a text, if it is next.
func (t *tokens) take(s string) bool {
	if t.next() != s {
		return false
	}
	t.drop()
	return true
}

// need goes on behind a text that has to be next.
func (t *tokens) need(s string) {
	if !t.take(s) {
		t.fail()
	}
}

// name takes a name that has to be next.
func (t *tokens) name() string {
	s := t.next()
	if !isName(s) {
		t.fail()
	}
	t.drop()
	return s
}

// reader reads a program.
type reader struct{ tokens }

// program takes all that is left.
func (r *reader) program() api.Program {
	var p api.Program
	for r.take(wVar) {
		p.Vars = append(p.Vars, r.name())
		for r.take(",") {
			p.Vars = append(p.Vars, r.name())
		}
		r.need(";")
	}
	for r.take(wProc) {
		name := r.name()
		p.Procs = append(p.Procs, api.Proc{Name: name, Body: r.block()})
	}
	if len(r.left) > 0 {
		r.fail()
	}
	return p
}

// block takes statements in braces.
func (r *reader) block() []api.Stmt {
	r.need("{")
	var l []api.Stmt
	for !r.take("}") {
		l = append(l, r.statement())
	}
	return l
}

// statement takes one.
func (r *reader) statement() api.Stmt {
	var s api.Stmt
	switch {
	case r.take(wEither):
		return r.either()
	case r.take(wLoop):
		return api.Stmt{Kind: api.SLoop, Kids: [][]api.Stmt{r.block()}}
	case r.take(wCall):
		s = api.Stmt{Kind: api.SCall, X: r.name()}
		if r.take(wFrom) {
			s.Y = r.name()
		}
	case r.take(wSkip):
		s.Kind = api.SSkip
	case r.take(wReturn):
		s.Kind = api.SReturn
	case r.take(wMark):
		s = api.Stmt{Kind: api.SMark, X: r.name()}
	case r.take(wClean):
		s = api.Stmt{Kind: api.SClean, X: r.name()}
	case r.take(wSink):
		s = api.Stmt{Kind: api.SSink, X: r.name()}
	case r.take(wAt):
		s = api.Stmt{Kind: api.SAt, X: r.name()}
	default:
		s = r.assignment()
	}
	r.need(";")
	return s
}

// either takes the blocks behind its word.
func (r *reader) either() api.Stmt {
	s := api.Stmt{Kind: api.SEither, Kids: [][]api.Stmt{r.block()}}
	r.need(wOr)
	s.Kids = append(s.Kids, r.block())
	for r.take(wOr) {
		s.Kids = append(s.Kids, r.block())
	}
	return s
}

// assignment takes a name and what it becomes.
func (r *reader) assignment() api.Stmt {
	s := api.Stmt{X: r.name()}
	r.need("=")
	k, e := words.Number(r.next())
	switch {
	case e == api.OK:
		r.drop()
		s.Kind, s.K = api.SSet, k
	case r.take("*"):
		s.Kind = api.SAny
	default:
		s.Kind, s.Y = api.SCopy, r.name()
	}
	return s
}

// parse reads tokens, up to the first fault.
func parse(l []api.Token, end fault) (p api.Program, at fault, e api.Errno) {
	defer func() {
		got := recover()
		f, ok := got.(fault)
		if ok {
			p, at, e = api.Program{}, f, api.ErrSyntax
		} else if got != nil {
			panic(got)
		}
	}()
	r := reader{tokens{l, end}}
	return r.program(), fault{}, api.OK
}

// Parse: the program of a text.
func Parse(s string) (api.Program, int, int, api.Errno) {
	l, line, col, e := words.Split(s)
	if e != api.OK {
		return api.Program{}, line, col, e
	}
	line, col, _ = words.Place(s, len(s))
	p, at, e := parse(l, fault{line, col})
	if e != api.OK {
		return api.Program{}, at.line, at.col, e
	}
	if e := Check(p); e != api.OK {
		return api.Program{}, 0, 0, e
	}
	return p, 0, 0, api.OK
}
