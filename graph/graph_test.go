package graph

import (
	"slices"
	"strconv"
	"strings"
	"testing"

	"stackyard/api"
	"stackyard/syntax"
)

func parse(t *testing.T, s string) api.Program {
	t.Helper()
	p, line, col, e := syntax.Parse(s)
	if e != 0 {
		t.Fatal(s, line, col, e)
	}
	return p
}

func build(t *testing.T, s string) api.Graph {
	t.Helper()
	g, spot, e := Make(parse(t, s))
	if e != 0 || spot != (api.Spot{}) || Check(g) != 0 {
		t.Fatal(s, spot, e)
	}
	return g
}

const every = `var x, y;
proc f { skip; x = -3; y = x; x = *; mark x; clean y; sink y; return; at dead; }
proc main {
  either { call f from a; at p; } or { } or { call main; }
  loop { call f; sink x; }
  at q;
}`

func TestP21_1(t *testing.T) {
	g := build(t, "proc main { call f; at p; } proc f { }")
	want := api.Graph{Procs: []string{"main", "f"}, Entry: []int{0, 3}, Exit: []int{1, 4}, Of: []int{0, 0, 0, 1, 1},
		Steps: []api.Step{{From: 0, To: 2, Kind: api.SCall}, {From: 2, To: 1, Kind: api.SSkip}, {From: 3, To: 4, Kind: api.SSkip}}, Sites: []api.Site{{Name: "main_0", Proc: 1, From: 0, Back: 2}}, Points: []api.Point{{Name: "p", Node: 2}}}
	if !Same(g, want) {
		t.Error(g)
	}
	g = build(t, every)
	want = api.Graph{Vars: []string{"x", "y"}, Procs: []string{"f", "main"}, Entry: []int{0, 9}, Exit: []int{1, 10}, Main: 1, Of: []int{0, 0, 0, 0, 0, 0, 0, 0, 0, 1, 1, 1, 1, 1, 1, 1},
		Steps: []api.Step{{From: 0, To: 2, Kind: api.SSkip}, {From: 2, To: 3, Kind: api.SSet, K: -3}, {From: 3, To: 4, Kind: api.SCopy, X: 1}, {From: 4, To: 5, Kind: api.SAny}, {From: 5, To: 6, Kind: api.SMark}, {From: 6, To: 7, Kind: api.SClean, X: 1}, {From: 7, To: 1, Kind: api.SSkip}, {From: 8, To: 1, Kind: api.SSkip},
			{From: 9, To: 11, Kind: api.SCall}, {From: 9, To: 12, Kind: api.SCall, Site: 1}, {From: 11, To: 13, Kind: api.SSkip}, {From: 9, To: 13, Kind: api.SSkip}, {From: 12, To: 13, Kind: api.SSkip}, {From: 13, To: 14, Kind: api.SSkip}, {From: 14, To: 15, Kind: api.SCall, Site: 2}, {From: 15, To: 14, Kind: api.SSkip}, {From: 14, To: 10, Kind: api.SSkip}},
		Sites:  []api.Site{{Name: "a", Proc: 0, From: 9, Back: 11}, {Name: "main_1", Proc: 1, From: 9, Back: 12}, {Name: "main_2", Proc: 0, From: 14, Back: 15}},
		Points: []api.Point{{Name: "dead", Node: 8}, {Name: "p", Node: 11}, {Name: "q", Node: 14}}, Sinks: []api.Sink{{X: 1, Node: 7}, {X: 0, Node: 15}}}
	if !Same(g, want) {
		t.Error(g)
	}
	for s, want := range map[string]struct {
		spot api.Spot
		e    api.Errno
	}{
		"var x, y, x; proc f { } proc f { }":   {api.Spot{Proc: -1, Stmt: 2}, api.ErrSame},
		"proc f { } proc g { } proc f { }":     {api.Spot{Proc: 2, Stmt: -1}, api.ErrSame},
		"proc f { mark x; }":                   {api.Spot{Proc: -1, Stmt: -1}, api.ErrUnknown},
		"":                                     {api.Spot{Proc: -1, Stmt: -1}, api.ErrUnknown},
		"proc main { x = 1; }":                 {api.Spot{}, api.ErrUnknown},
		"var x; proc main { skip; x = y; }":    {api.Spot{Stmt: 1}, api.ErrUnknown},
		"var x; proc main { y = x; }":          {api.Spot{}, api.ErrUnknown},
		"var x; proc main { sink x; sink y; }": {api.Spot{Stmt: 1}, api.ErrUnknown},
		"proc main { call g; }":                {api.Spot{}, api.ErrUnknown},
		"proc main { } proc f { either { skip; } or { skip; at p; } loop { at p; } }": {api.Spot{Proc: 1, Stmt: 5}, api.ErrSame},
		"proc main { call main from a; call g from a; }":                              {api.Spot{Stmt: 1}, api.ErrUnknown},
		"proc main { call main from a; call main from a; }":                           {api.Spot{Stmt: 1}, api.ErrSame},
		"proc main { call main from main_1; call main; }":                             {api.Spot{Stmt: 1}, api.ErrSame},
		"proc main { either { mark x; } or { } at p; at p; }":                         {api.Spot{Stmt: 1}, api.ErrUnknown},
	} {
		if g, spot, e := Make(parse(t, s)); spot != want.spot || e != want.e || !Same(g, api.Graph{}) {
			t.Error(s, spot, e)
		}
	}
	if g, spot, e := Make(api.Program{Vars: []string{"var", "var"}}); spot != (api.Spot{Proc: -1, Stmt: -1}) || e != api.ErrProgram || !Same(g, api.Graph{}) {
		t.Error(spot, e)
	}
	build(t, "proc main { at main; call main from main; }")
	names := func(n int) string {
		var l []string
		for i := range n {
			l = append(l, "x"+strconv.Itoa(i))
		}
		return strings.Join(l, ", ")
	}
	build(t, "var "+names(64)+"; proc main { }")
	build(t, "proc main { "+strings.Repeat("call main; ", 1024)+"}")
	build(t, "proc main { "+strings.Repeat("skip; ", 4094)+"}")
	procs := "proc main { } "
	for i := range 1023 {
		procs += "proc f" + strconv.Itoa(i) + " { } "
	}
	build(t, procs)
	for _, s := range []string{"var " + names(65) + "; proc main { }", "proc main { " + strings.Repeat("call main; ", 1025) + "}", "proc main { " + strings.Repeat("skip; ", 4095) + "}", procs + "proc f { }"} {
		if g, spot, e := Make(parse(t, s)); spot != (api.Spot{Proc: -1, Stmt: -1}) || e != api.ErrDims || !Same(g, api.Graph{}) {
			t.Error(spot, e)
		}
	}
}

func clone(g api.Graph) api.Graph {
	g.Vars, g.Procs, g.Entry, g.Exit, g.Of = slices.Clone(g.Vars), slices.Clone(g.Procs), slices.Clone(g.Entry), slices.Clone(g.Exit), slices.Clone(g.Of)
	g.Steps, g.Sites, g.Points, g.Sinks = slices.Clone(g.Steps), slices.Clone(g.Sites), slices.Clone(g.Points), slices.Clone(g.Sinks)
	return g
}

func TestP21_2(t *testing.T) {
	good := build(t, every)
	if Check(good) != 0 {
		t.Fatal("Check")
	}
	for i, change := range []func(g *api.Graph){
		func(g *api.Graph) { *g = api.Graph{} }, func(g *api.Graph) { g.Vars = make([]string, 65) }, func(g *api.Graph) { g.Entry = g.Entry[:1] }, func(g *api.Graph) { g.Exit = append(g.Exit, 1) }, func(g *api.Graph) { g.Entry[0] = 16 }, func(g *api.Graph) { g.Entry[0] = -1 }, func(g *api.Graph) { g.Entry[0] = 9 }, func(g *api.Graph) { g.Exit[1] = 1 },
		func(g *api.Graph) { g.Of[3] = 2 }, func(g *api.Graph) { g.Of = append(g.Of, 2) }, func(g *api.Graph) { g.Of[3] = -1 }, func(g *api.Graph) { g.Of = append(g.Of, make([]int, 4096)...) }, func(g *api.Graph) { g.Main = 2 }, func(g *api.Graph) { g.Main = -1 },
		func(g *api.Graph) { g.Steps[0].To = 16 }, func(g *api.Graph) { g.Steps[0].From = -1 }, func(g *api.Graph) { g.Steps[0].To = 9 }, func(g *api.Graph) { g.Steps[0].Kind = api.SSink }, func(g *api.Graph) { g.Steps[0].Kind = 0 }, func(g *api.Graph) { g.Steps[0].Kind = api.SEither },
		func(g *api.Graph) { g.Steps[0].X = 1 }, func(g *api.Graph) { g.Steps[1].X = 2 }, func(g *api.Graph) { g.Steps[1].Y = 1 }, func(g *api.Graph) { g.Steps[0].K = 1 }, func(g *api.Graph) { g.Steps[2].Y = -1 }, func(g *api.Graph) { g.Steps[2].X = 2 }, func(g *api.Graph) { g.Steps[3].K = 1 }, func(g *api.Graph) { g.Steps[1].Site = 1 }, func(g *api.Graph) { g.Steps[8].X = 1 },
		func(g *api.Graph) { g.Steps[9].Site = 0 }, func(g *api.Graph) { g.Steps[8], g.Steps[9] = g.Steps[9], g.Steps[8] }, func(g *api.Graph) { g.Sites[0].From = 11 }, func(g *api.Graph) { g.Sites[0].Back = 12 }, func(g *api.Graph) { g.Sites[0].Proc = 2 }, func(g *api.Graph) { g.Sites = append(g.Sites, g.Sites[0]) }, func(g *api.Graph) { g.Sites = g.Sites[:2] },
		func(g *api.Graph) { g.Points[0].Node = 16 }, func(g *api.Graph) { g.Sinks[0].Node = -1 }, func(g *api.Graph) { g.Sinks[0].X = 2 }, func(g *api.Graph) { g.Procs = make([]string, 1025) },
	} {
		g := clone(good)
		change(&g)
		if Check(g) != api.ErrGraph {
			t.Error(i)
		}
		if Same(g, good) {
			t.Error(i, "Same")
		}
		if l, e := From(g, 99); l != nil || e != api.ErrGraph {
			t.Error(i, e)
		}
		if l, e := Reach(g, 99); l != nil || e != api.ErrGraph {
			t.Error(i, e)
		}
		if l, e := Calls(g, 99); l != nil || e != api.ErrGraph {
			t.Error(i, e)
		}
	}
	tiny := api.Graph{Procs: []string{""}, Entry: []int{0}, Exit: []int{0}, Of: []int{0}}
	if Check(tiny) != 0 {
		t.Error("entry and exit may be one node")
	}
	if n, ok := Point(good, "q"); n != 14 || !ok {
		t.Error(n, ok)
	}
	if n, ok := Point(good, "r"); n != 0 || ok {
		t.Error(n, ok)
	}
	if n, ok := Point(api.Graph{Points: []api.Point{{Name: "a", Node: -7}, {Name: "a", Node: 1}}}, "a"); n != -7 || !ok {
		t.Error(n, ok)
	}
	if !Same(api.Graph{}, api.Graph{Vars: []string{}, Sinks: []api.Sink{}}) {
		t.Error("Same")
	}
}

func TestP21_3(t *testing.T) {
	g := build(t, every)
	if l, e := From(g, 9); !slices.Equal(l, []int{8, 9, 11}) || e != 0 {
		t.Error(l, e)
	}
	if l, e := From(g, 1); len(l) != 0 || e != 0 {
		t.Error(l, e)
	}
	if l, e := Reach(g, 0); !slices.Equal(l, []int{0, 1, 2, 3, 4, 5, 6, 7}) || e != 0 {
		t.Error(l, e)
	}
	for proc, want := range [][]int{nil, {0, 1}} {
		if l, e := Calls(g, proc); !slices.Equal(l, want) || e != 0 {
			t.Error(l, e)
		}
	}
	g = build(t, "proc main { call a; return; call c; } proc a { call b; } proc b { call a; } proc c { call main; }")
	for proc, want := range [][]int{{1, 2}, {1, 2}, {1, 2}, {0, 1, 2}} {
		if l, e := Calls(g, proc); !slices.Equal(l, want) || e != 0 {
			t.Error(proc, l, e)
		}
	}
	g = build(t, "proc main { either { skip; } or { call f; } } proc f { }")
	if l, e := Calls(g, 0); !slices.Equal(l, []int{1}) || e != 0 {
		t.Error(l, e)
	}
	if l, e := From(g, len(g.Of)); l != nil || e != api.ErrRange {
		t.Error(l, e)
	}
	if l, e := Reach(g, len(g.Procs)); l != nil || e != api.ErrRange {
		t.Error(l, e)
	}
	for _, n := range []int{-1, 99} {
		if l, e := From(g, n); l != nil || e != api.ErrRange {
			t.Error(l, e)
		}
		if l, e := Reach(g, n); l != nil || e != api.ErrRange {
			t.Error(l, e)
		}
		if l, e := Calls(g, n); l != nil || e != api.ErrRange {
			t.Error(l, e)
		}
	}
}

func TestP21_4(t *testing.T) {
	for _, s := range []string{every, "proc main { }", "proc main { loop { loop { return; } either { } or { call main; } } return; return; }"} {
		if Check(build(t, s)) != 0 {
			t.Error(s)
		}
	}
}

func TestP21_5(t *testing.T) {
	for _, s := range []string{every, "proc main { }", "var x; proc main { loop { loop { return; } either { sink x; } or { call main; at p; } } return; return; }"} {
		p := parse(t, s)
		g := build(t, s)
		n, _, _ := syntax.Count(p)
		if len(g.Of) != 2*len(p.Procs)+n-len(g.Sinks)-len(g.Points) {
			t.Error(s, len(g.Of))
		}
		names := map[string]int{}
		for _, x := range g.Points {
			names["at "+x.Name]++
		}
		for _, x := range g.Sites {
			names["from "+x.Name]++
		}
		if len(names) != len(g.Points)+len(g.Sites) {
			t.Error(s, names)
		}
	}
}
