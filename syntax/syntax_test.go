package syntax

import (
	"strings"
	"testing"

	"stackyard/api"
	"stackyard/words"
)

func parse1(t *testing.T, s string) api.Program {
	t.Helper()
	p, line, col, e := Parse(s)
	if line != 0 || col != 0 || e != 0 {
		t.Fatalf("%q: %d, %d, %d", s, line, col, e)
	}
	return p
}

func stmt(kind api.StmtKind, x, y string, k int64, kids ...[]api.Stmt) api.Stmt {
	return api.Stmt{Kind: kind, X: x, Y: y, K: k, Kids: kids}
}

// body is a program of one procedure.
func body(l ...api.Stmt) api.Program {
	return api.Program{Vars: []string{"x", "y"}, Procs: []api.Proc{{Name: "main", Body: l}}}
}

const whole = `var x, y;
proc main {
  skip;
  x = -3;
  y = x;
  x = *;
  mark x;
  clean y;
  sink x;
  call f;
  call f from a;
  either {
    return;
  } or {
  } or {
    loop {
      at p;
    }
  }
}
proc f {
}
`

// tree is that of whole.
func tree() api.Program {
	p := body(stmt(api.SSkip, "", "", 0), stmt(api.SSet, "x", "", -3), stmt(api.SCopy, "y", "x", 0), stmt(api.SAny, "x", "", 0), stmt(api.SMark, "x", "", 0), stmt(api.SClean, "y", "", 0), stmt(api.SSink, "x", "", 0),
		stmt(api.SCall, "f", "", 0), stmt(api.SCall, "f", "a", 0), stmt(api.SEither, "", "", 0, []api.Stmt{stmt(api.SReturn, "", "", 0)}, nil, []api.Stmt{stmt(api.SLoop, "", "", 0, []api.Stmt{stmt(api.SAt, "p", "", 0)})}))
	p.Procs = append(p.Procs, api.Proc{Name: "f"})
	return p
}

// nested is a program with a block that lies in so many others.
func nested(n int) api.Program {
	var l []api.Stmt
	for range n {
		l = []api.Stmt{stmt(api.SLoop, "", "", 0, l)}
	}
	return body(l...)
}

// long is a program of so many statements.
func long(n int) api.Program {
	var l []api.Stmt
	for range n {
		l = append(l, stmt(api.SSkip, "", "", 0))
	}
	return body(l...)
}

func TestP20_1(t *testing.T) {
	var wrong []api.Program
	for _, s := range []api.Stmt{{}, {Kind: 13}, {Kind: -1}, stmt(api.SSkip, "x", "", 0), stmt(api.SReturn, "", "", 1), stmt(api.SSet, "", "", 1), stmt(api.SSet, "x", "y", 1), stmt(api.SCopy, "x", "", 0), stmt(api.SCopy, "x", "or", 0), stmt(api.SCopy, "x", "y", 1), stmt(api.SAny, "x", "y", 0),
		stmt(api.SMark, "9", "", 0), stmt(api.SMark, "a b", "", 0), stmt(api.SMark, "at", "", 0), stmt(api.SMark, strings.Repeat("a", 65), "", 0), stmt(api.SCall, "", "a", 0), stmt(api.SCall, "f", "-", 0), stmt(api.SEither, "", "", 0, nil), stmt(api.SEither, "x", "", 0, nil, nil), stmt(api.SLoop, "", "", 0), stmt(api.SLoop, "", "", 0, nil, nil), stmt(api.SAt, "x", "", 0, nil), stmt(api.SLoop, "", "", 0, []api.Stmt{{}})} {
		wrong = append(wrong, body(s))
	}
	wrong = append(wrong, api.Program{Vars: []string{"var"}}, api.Program{Vars: []string{""}}, api.Program{Procs: []api.Proc{{Name: "proc"}}}, api.Program{Procs: []api.Proc{{}}})
	ask := func(p api.Program, want api.Errno) {
		t.Helper()
		s, e1 := Print(p)
		n, m, e2 := Count(p)
		if Check(p) != want || e1 != want || e2 != want || s != "" || n+m != 0 {
			t.Error(Check(p), e1, e2, want)
		}
	}
	for _, p := range wrong {
		ask(p, api.ErrProgram)
	}
	loop := []api.Stmt{{}}
	loop[0].Kids = [][]api.Stmt{loop}
	bad := nested(51)
	bad.Procs = append(bad.Procs, api.Proc{})
	for _, p := range []api.Program{bad, nested(51), long(4097), body(loop...), body(append(long(4096).Procs[0].Body, api.Stmt{})...), body(stmt(api.SSkip, "", "", 0, nested(50).Procs[0].Body))} {
		ask(p, api.ErrMany)
	}
	for _, c := range []struct {
		p    api.Program
		n, m int
	}{{nested(50), 50, 50}, {long(4096), 4096, 0}, {tree(), 13, 2}, {api.Program{}, 0, 0}} {
		if n, m, e := Count(c.p); n != c.n || m != c.m || e != 0 || Check(c.p) != 0 {
			t.Error(n, m, e)
		}
	}
	if s, e := Print(tree()); s != whole || e != 0 {
		t.Error(s, e)
	}
	if s, e := Print(api.Program{}); s != "" || e != 0 {
		t.Error(s, e)
	}
	if s, e := Print(api.Program{Vars: []string{"x"}}); s != "var x;\n" || e != 0 {
		t.Error(s, e)
	}
}

func TestP20_2(t *testing.T) {
	if p := parse1(t, whole); !Same(p, tree()) {
		t.Error(p)
	}
	if p := parse1(t, "var x;var y,z;"); !Same(p, api.Program{Vars: []string{"x", "y", "z"}}) {
		t.Error(p)
	}
	if p := parse1(t, ""); !Same(p, api.Program{}) {
		t.Error(p)
	}
	for s, want := range map[string][2]int{
		"proc main { x = ; }": {1, 17}, "proc main {": {1, 12}, "proc var { }": {1, 6}, "x": {1, 1}, "proc": {1, 5}, "proc f { } var x;": {1, 12}, "var ;": {1, 5}, "var x,;": {1, 7}, "var x y;": {1, 7}, "var x\n": {2, 1},
		"proc f { skip }": {1, 15}, "proc f { x + 1; }": {1, 12}, "proc f { x = or; }": {1, 14}, "proc f { x = - ; }": {1, 14}, "proc f { either { } }": {1, 21}, "proc f { either { } loop { } }": {1, 21}, "proc f { or { } }": {1, 10}, "proc f { call f from ; }": {1, 22}, "proc f { call f from from; }": {1, 22}, "proc f { at 3; }": {1, 13}, "proc f { }\n }": {2, 2},
		"proc f { loop skip; }": {1, 15}, "proc f { return x; }": {1, 17}, "proc f { = 3; }": {1, 10}, "proc f { from = 3; }": {1, 10}, "proc f { x = 3 3; }": {1, 16}, "proc f { mark 3; # é\n": {1, 15}, "proc f { # é\n ": {2, 2},
	} {
		p, line, col, e := Parse(s)
		code := api.ErrSyntax
		if strings.Contains(s, " - ") {
			code = api.ErrToken
		}
		if line != want[0] || col != want[1] || e != code || !Same(p, api.Program{}) {
			t.Errorf("%q: %d, %d, %d", s, line, col, e)
		}
	}
	if _, line, col, e := Parse("proc f {\n 007 }"); line != 2 || col != 2 || e != api.ErrToken {
		t.Error(line, col, e)
	}
	if _, line, col, e := Parse(strings.Repeat(" ", api.MaxText+1)); line != 0 || col != 0 || e != api.ErrLong {
		t.Error(line, col, e)
	}
	deep := func(n int) string {
		return "proc f { " + strings.Repeat("loop { ", n) + strings.Repeat("} ", n) + "}"
	}
	parse1(t, deep(50))
	for _, s := range []string{deep(51), deep(16000), "proc f {" + strings.Repeat("skip;", 4097) + "}"} {
		if p, line, col, e := Parse(s); line != 0 || col != 0 || e != api.ErrMany || !Same(p, api.Program{}) {
			t.Error(line, col, e)
		}
	}
	if _, line, col, e := Parse(deep(51) + "}"); line != 1 || col != len(deep(51))+1 || e != api.ErrSyntax {
		t.Error(line, col, e)
	}
}

func TestP20_3(t *testing.T) {
	a := tree()
	if !Same(a, tree()) || !Same(api.Program{}, api.Program{Vars: []string{}, Procs: []api.Proc{}}) {
		t.Error("Same")
	}
	for i, change := range []func(p *api.Program){
		func(p *api.Program) { p.Vars[0] = "z" }, func(p *api.Program) { p.Procs[1].Name = "g" }, func(p *api.Program) { p.Procs[0].Body[1].K++ }, func(p *api.Program) { p.Procs[0].Body[1].Kind = api.SAny }, func(p *api.Program) { p.Procs[0].Body[8].Y = "b" }, func(p *api.Program) { p.Procs[0].Body[9].Kids[0][0].Kind = api.SSkip }, func(p *api.Program) { p.Procs = p.Procs[:1] },
	} {
		b := tree()
		change(&b)
		if Same(a, b) {
			t.Error(i)
		}
	}
}

func TestP20_4(t *testing.T) {
	extreme := body(stmt(api.SSet, "x", "", -1<<63), stmt(api.SSet, "x", "", 1<<63-1), stmt(api.SSet, "x", "", 0))
	for _, p := range []api.Program{tree(), nested(50), long(4096), extreme, {}, {Vars: []string{"x", "x"}}} {
		s, e := Print(p)
		if e != 0 || !Same(parse1(t, s), p) {
			t.Error(s, e)
		}
	}
	p := parse1(t, "var a;var b; proc f{either{x=-1;}or{}loop{}}proc f{}")
	s, _ := Print(p)
	if !Same(parse1(t, s), p) {
		t.Error(s)
	}
}

func TestP20_5(t *testing.T) {
	l, _, _, _ := words.Split(whole)
	for _, between := range []string{" ", "\n", "\t\r\n", " # no { } ;\n"} {
		s := between
		for _, x := range l {
			s += x.Text + between
		}
		if !Same(parse1(t, s), tree()) {
			t.Errorf("%q", between)
		}
	}
}
