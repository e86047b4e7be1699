package taint

import (
	"slices"
	"strconv"
	"strings"
	"testing"

	"stackyard/api"
	"stackyard/dfa"
	"stackyard/frames"
	"stackyard/graph"
	"stackyard/pds"
	"stackyard/post"
	"stackyard/query"
	"stackyard/regex"
	"stackyard/samples"
	"stackyard/syntax"
	"stackyard/wfa"
)

func build(t *testing.T, s string) api.Graph {
	t.Helper()
	p, line, col, e := syntax.Parse(s)
	if e != 0 {
		t.Fatal(s, line, col, e)
	}
	g, spot, e := graph.Make(p)
	if e != 0 {
		t.Fatal(s, spot, e)
	}
	return g
}

func lang(t *testing.T, g api.Graph, s string) api.Dfa {
	t.Helper()
	var names []string
	for _, x := range g.Sites {
		names = append(names, x.Name)
	}
	r, _, _ := regex.Parse(s)
	d, e := dfa.Make(r, names...)
	if e != 0 {
		t.Fatal(s, e)
	}
	return d
}

// programs are examples with calls, loops, copies and dead ends.
var programs = []string{
	`var x; proc main { mark x; call f; } proc f { sink x; }`,
	`var x; proc main { mark x; call f from a; clean x; call f from b; sink x; } proc f { skip; sink x; }`,
	`var x, y; proc main { mark x; call f from a; sink y; sink x; } proc f { either { y = x; clean x; } or { call f from r; } or { x = y; } sink y; }`,
	`var x, y, z; proc main { loop { call f from a; call g from b; } sink z; } proc f { mark x; y = x; x = 3; } proc g { either { z = y; y = *; } or { return; sink x; } call h from c; } proc h { sink z; x = x; sink x; }`,
	`var x, y; proc main { call f from a; sink x; } proc f { either { call f from r; y = x; x = *; } or { mark x; } or { call dead from d; sink x; } } proc dead { call dead from e; }`,
	`var x; proc main { either { call main from m; sink x; } or { mark x; } }`,
	`proc main { call f; } proc f { }`,
}

var langs = []string{".*", "%", ".", ". .", "!(. .*)", "!%"}

func TestErrors(t *testing.T) {
	g := build(t, programs[0])
	good := lang(t, g, ".*")
	two := api.Dfa{Symbols: 2, Next: [][]int{{0, 0}}, Accept: []bool{true}}
	for i, c := range []struct {
		g           api.Graph
		limit, node int
		lang        api.Dfa
		want        api.Errno
	}{{api.Graph{}, -1, -1, api.Dfa{}, api.ErrGraph}, {g, -1, -1, api.Dfa{}, api.ErrCap}, {g, api.MaxCap + 1, -1, api.Dfa{}, api.ErrCap}, {g, 0, -1, api.Dfa{}, api.ErrRange}, {g, 0, len(g.Of), api.Dfa{}, api.ErrRange}, {g, api.MaxCap, 0, api.Dfa{}, api.ErrDfa}, {g, 0, 0, two, api.ErrDfa}} {
		n, l, e1 := At(c.g, c.limit, c.node, c.lang)
		m, e2 := Why(c.g, c.limit, c.node, c.lang, -9)
		if e1 != c.want || e2 != c.want || n != 0 || l != nil || m != nil {
			t.Error(i, e1, e2)
		}
		if c.want == api.ErrGraph || c.want == api.ErrCap {
			p, e3 := System(c.g, c.limit)
			k, e4 := Leaks(c.g, c.limit)
			if e3 != c.want || e4 != c.want || p.States != 0 || k != nil {
				t.Error(i, e3, e4)
			}
		}
	}
	for _, x := range []int{-2, 1} {
		if m, e := Why(g, 9, 0, good, x); e != api.ErrRange || m != nil {
			t.Error(e)
		}
	}
	if m, e := Why(g, 9, 0, good, 0); e != api.ErrNone || m != nil {
		t.Error(e)
	}
	if m, e := Why(g, 9, g.Entry[1], lang(t, g, "%"), -1); e != api.ErrNone || m != nil {
		t.Error(e)
	}
	if m, e := Why(g, 2, g.Entry[1], good, 0); e != api.ErrLong || m != nil {
		t.Error(e)
	}
	if m, e := Why(g, 0, g.Entry[0], good, -1); e != api.ErrLong || m != nil {
		t.Error(e)
	}
	if m, e := Why(g, 3, g.Entry[1], good, 0); e != 0 || len(m) != 2 {
		t.Error(e)
	}
}

func TestP24_1(t *testing.T) {
	g := build(t, "var x, y; proc main { x = y; mark y; clean x; x = x; call f; } proc f { }")
	p, e := System(g, 5)
	if e != 0 || p.States != 3 || p.Symbols != len(g.Of) || p.Space.Tag != api.Cost || p.Space.Dim != 5 || pds.Check(p) != 0 {
		t.Fatal(p, e)
	}
	var texts []string
	for _, r := range p.Rules {
		s := strconv.Itoa(r.P) + "." + strconv.Itoa(r.G) + ">" + strconv.Itoa(r.Q)
		for _, w := range r.W {
			s += "." + strconv.Itoa(w)
		}
		if r.F.Cost != 1 {
			t.Error(r)
		}
		texts = append(texts, s)
	}
	// main: entry 0, exit 1; f: entry 7, exit 8.
	want := "0.0>0.2 2.0>2.2 2.0>1.2 0.2>0.3 0.2>2.3 1.2>1.3 2.2>2.3 0.3>0.4 2.3>2.4 0.4>0.5 1.4>1.5 2.4>2.5 0.5>0.7.6 1.5>1.7.6 2.5>2.7.6 0.6>0.1 1.6>1.1 2.6>2.1 0.7>0.8 1.7>1.8 2.7>2.8 0.1>0 1.1>1 2.1>2 0.8>0 1.8>1 2.8>2"
	if got := strings.Join(texts, " "); got != want {
		t.Error(got)
	}
	if p, _ := System(g, 0); p.Rules[0].F.Cost != 0 {
		t.Error(p.Rules[0])
	}
	vars := "var x0"
	for i := range 63 {
		vars += ", x" + strconv.Itoa(i+1)
	}
	big := build(t, vars+"; proc main { "+strings.Repeat("skip; ", 250)+"}")
	if p, e := System(big, 5); e != 0 || len(p.Rules) != 252*65 {
		t.Error(len(p.Rules), e)
	}
	big = build(t, vars+"; proc main { "+strings.Repeat("skip; ", 251)+"}")
	if p, e := System(big, 5); e != api.ErrMany || p.Rules != nil {
		t.Error(len(p.Rules), e)
	}
}

// fewest is by how many moves at least states are reached, by exploring all of at most n moves.
type fewest struct {
	state api.State
	moves int
}

func explore(t *testing.T, g api.Graph, n int) []fewest {
	t.Helper()
	s, _ := frames.Start(g)
	var l []fewest
	for k := range n + 1 {
		all, e := frames.Explore(g, s, []int64{0}, k, 20000)
		if e != 0 {
			t.Fatal(e)
		}
		for _, x := range all[len(l):] {
			l = append(l, fewest{x, k})
		}
	}
	return l
}

func TestP24_2(t *testing.T) {
	g := build(t, programs[0])
	if n, l, e := At(g, 100, g.Entry[1], lang(t, g, ".*")); n != 2 || !slices.Equal(l, []api.Marked{{X: 0, Steps: 2}}) || e != 0 {
		t.Error(n, l, e)
	}
	if n, l, e := At(g, 1, g.Entry[1], lang(t, g, ".*")); n != 1 || !slices.Equal(l, []api.Marked{{X: 0, Steps: 1}}) || e != 0 {
		t.Error(n, l, e)
	}
	if n, l, e := At(g, 100, g.Entry[1], lang(t, g, "%")); n != api.NoCost || l != nil || e != 0 {
		t.Error(n, l, e)
	}
	const deep = 13
	for _, s := range programs {
		g := build(t, s)
		all := explore(t, g, deep)
		for _, text := range langs {
			d := lang(t, g, text)
			for node := range g.Of {
				want, marked := api.NoCost, map[int]int{}
				for _, x := range all {
					if _, in, _ := dfa.Run(d, x.state.Stack...); !in || x.state.Node != node {
						continue
					}
					if want < 0 {
						want = x.moves
					}
					for v := range g.Vars {
						if _, known := marked[v]; !known && x.state.Marks>>v&1 == 1 {
							marked[v] = x.moves
						}
					}
				}
				n, l, e := At(g, 1000, node, d)
				if e != 0 || want != n && (want >= 0 || n >= 0 && n <= deep) {
					t.Fatal(s, text, node, n, want, e)
				}
				for _, m := range l {
					if k, known := marked[m.X]; known && k != m.Steps || !known && m.Steps <= deep {
						t.Fatal(s, text, node, m, k, known)
					}
					delete(marked, m.X)
				}
				if len(marked) > 0 || !slices.IsSortedFunc(l, func(a, b api.Marked) int { return a.X - b.X }) {
					t.Fatal(s, text, node, l, marked)
				}
			}
		}
	}
}

func TestP24_3(t *testing.T) {
	g := build(t, programs[0])
	if l, e := Leaks(g, 100); !slices.Equal(l, []api.Leak{{Sink: 0, Steps: 2}}) || e != 0 {
		t.Error(l, e)
	}
	for _, s := range programs {
		g := build(t, s)
		l, e := Leaks(g, 50)
		if e != 0 {
			t.Fatal(e)
		}
		var want []api.Leak
		for i, sink := range g.Sinks {
			_, marked, _ := At(g, 50, sink.Node, lang(t, g, ".*"))
			for _, m := range marked {
				if m.X == sink.X {
					want = append(want, api.Leak{Sink: i, Steps: m.Steps})
				}
			}
		}
		if !slices.Equal(l, want) {
			t.Error(s, l, want)
		}
	}
}

func TestP24_4(t *testing.T) {
	shown := 0
	for _, s := range programs {
		g := build(t, s)
		for _, text := range langs {
			d := lang(t, g, text)
			for node := range g.Of {
				n, marked, _ := At(g, 1000, node, d)
				want := map[int]int{-1: n}
				for _, m := range marked {
					want[m.X] = m.Steps
				}
				for x := -1; x < len(g.Vars); x++ {
					l, e := Why(g, 1000, node, d, x)
					k, told := want[x]
					if !told || k < 0 {
						if e != api.ErrNone || l != nil {
							t.Fatal(s, text, node, x, e)
						}
						continue
					}
					begin, _ := frames.Start(g)
					end, at, e2 := frames.Run(g, begin, l...)
					_, in, _ := dfa.Run(d, end.Stack...)
					if e != 0 || e2 != 0 || len(l) != k || end.Node != node || !in || x >= 0 && end.Marks>>x&1 == 0 {
						t.Fatal(s, text, node, x, e, at, e2, len(l), k)
					}
					shown++
				}
			}
		}
	}
	if shown < 100 {
		t.Error(shown)
	}
}

// double is a program in which each procedure calls the next one twice.
func double(n int) string {
	s := "var x; proc main { call f0; mark x; sink x; } "
	for i := range n {
		next := "f" + strconv.Itoa(i+1)
		s += "proc f" + strconv.Itoa(i) + " { call " + next + "; call " + next + "; } "
	}
	return s + "proc f" + strconv.Itoa(n) + " { }"
}

// TestFar: where the fewest steps are very many.
func TestFar(t *testing.T) {
	g := build(t, double(15))
	node := g.Sinks[0].Node
	n, _, e := At(g, api.MaxCap, node, lang(t, g, ".*"))
	if e != 0 || n >= api.MaxCap {
		t.Fatal(n, e)
	}
	l, e := Why(g, api.MaxCap, node, lang(t, g, ".*"), 0)
	begin, _ := frames.Start(g)
	end, _, e2 := frames.Run(g, begin, l...)
	if e != 0 || e2 != 0 || len(l) != n || end.Node != node || end.Marks != 1 {
		t.Error(len(l), n, e, e2)
	}
	g = build(t, double(400))
	if n, l, e := At(g, api.MaxCap, g.Sinks[0].Node, lang(t, g, "%")); n != api.MaxCap || len(l) != 1 || l[0].Steps != api.MaxCap || e != 0 {
		t.Error(n, l, e)
	}
	if l, e := Why(g, api.MaxCap, g.Sinks[0].Node, lang(t, g, "%"), -1); l != nil || e != api.ErrLong {
		t.Error(e)
	}
}

func TestP24_5(t *testing.T) {
	for _, s := range programs {
		g := build(t, s)
		for i, x := range explore(t, g, 10) {
			if i%7 != 0 {
				continue
			}
			word := "%"
			for _, site := range x.state.Stack {
				word += " " + g.Sites[site].Name
			}
			n, l, e := At(g, 1000, x.state.Node, lang(t, g, word))
			if e != 0 || n < 0 || n > x.moves {
				t.Fatal(s, x, n, e)
			}
			for v := range g.Vars {
				told := slices.ContainsFunc(l, func(m api.Marked) bool { return m.X == v && m.Steps <= x.moves })
				if x.state.Marks>>v&1 == 1 && !told {
					t.Fatal(s, x, l)
				}
			}
		}
	}
}

func TestP24_6(t *testing.T) {
	g := build(t, programs[3])
	d := lang(t, g, "c b")
	_, marked, _ := At(g, 500, g.Entry[3], d)
	if len(marked) == 0 {
		t.Fatal("nothing is marked")
	}
	for _, m := range marked {
		l, e := Why(g, 500, g.Entry[3], d, m.X)
		begin, _ := frames.Start(g)
		if end, _, e2 := frames.Run(g, begin, l...); e != 0 || e2 != 0 || end.Marks>>m.X&1 == 0 || !slices.Equal(end.Stack, []int{2, 1}) {
			t.Error(m, e, e2)
		}
	}
}

func TestP24_7(t *testing.T) {
	for _, s := range programs {
		g := build(t, s)
		p, _ := System(g, 40)
		a, _ := query.One(p, api.Conf{W: []int{g.Entry[g.Main]}})
		sat, e := post.Make(p, a, 1<<40)
		if e != 0 {
			t.Fatal(e)
		}
		for node := range g.Of {
			for _, sites := range samples.Words(2, len(g.Sites)) {
				word, stack := "%", []int{node}
				for _, site := range sites {
					word += " " + g.Sites[site].Name
					stack = append(stack, g.Sites[site].Back)
				}
				n, l, _ := At(g, 40, node, lang(t, g, word))
				for f := range len(g.Vars) + 1 {
					v, _ := wfa.Value(sat.Auto, true, f, stack...)
					want := v.Cost
					if v.Zero {
						want = api.NoCost
					}
					got := n
					if f > 0 {
						got = api.NoCost
						for _, m := range l {
							if m.X == f-1 {
								got = m.Steps
							}
						}
					}
					if got != want {
						t.Fatal(s, node, sites, f, got, want)
					}
				}
			}
		}
	}
}

func TestP24_8(t *testing.T) {
	for _, s := range programs {
		g := build(t, s)
		for _, x := range langs {
			for _, y := range langs {
				a, b := lang(t, g, x), lang(t, g, y)
				if within, _, _ := dfa.Within(a, b); !within {
					continue
				}
				for node := range g.Of {
					n, l, _ := At(g, 100, node, a)
					m, k, _ := At(g, 100, node, b)
					if n >= 0 && (m < 0 || m > n) {
						t.Fatal(s, x, y, node)
					}
					for _, p := range l {
						if !slices.ContainsFunc(k, func(q api.Marked) bool { return q.X == p.X && q.Steps <= p.Steps }) {
							t.Fatal(s, x, y, node, p)
						}
					}
				}
			}
		}
	}
}

// TestOneBack: two calls of different procedures with one node behind them are told apart.
func TestOneBack(t *testing.T) {
	g := build(t, "var x; proc main { call f from a; } proc f { mark x; } proc h { }")
	g.Steps = append(g.Steps, api.Step{From: g.Sites[0].From, To: g.Sites[0].Back, Kind: api.SCall, Site: 1})
	g.Sites = append(g.Sites, api.Site{Name: "b", Proc: 2, From: g.Sites[0].From, Back: g.Sites[0].Back})
	if graph.Check(g) != 0 {
		t.Fatal("Check")
	}
	for word, want := range map[string]int{"a": 3, "b": -1} {
		n, l, e := At(g, 100, g.Exit[1], lang(t, g, word))
		if e != 0 || n != want || want > 0 && !slices.Equal(l, []api.Marked{{X: 0, Steps: 3}}) {
			t.Error(word, n, l, e)
		}
	}
	if n, _, e := At(g, 100, g.Exit[2], lang(t, g, "b")); n != 2 || e != 0 {
		t.Error(n, e)
	}
	if n, l, e := At(g, 100, g.Exit[0], lang(t, g, "%")); n != 4 || !slices.Equal(l, []api.Marked{{X: 0, Steps: 5}}) || e != 0 {
		t.Error(n, l, e)
	}
}

// TestPrograms: of programs without a pattern all that is told is what executions of few moves show.
func TestPrograms(t *testing.T) {
	const deep = 9
	shown := 0
	for i := range 400 {
		g, _, e := graph.Make(samples.New(i).Program())
		if e != 0 {
			t.Fatal(e)
		}
		all := explore(t, g, deep)
		d := lang(t, g, langs[i%len(langs)])
		begin, _ := frames.Start(g)
		for node := range g.Of {
			want := map[int]int{}
			for _, x := range all {
				if _, in, _ := dfa.Run(d, x.state.Stack...); !in || x.state.Node != node {
					continue
				}
				for v := -1; v < len(g.Vars); v++ {
					if _, known := want[v]; !known && (v < 0 || x.state.Marks>>v&1 == 1) {
						want[v] = x.moves
					}
				}
			}
			n, l, e := At(g, 1000, node, d)
			if e != 0 {
				t.Fatal(i, e)
			}
			if n >= 0 {
				l = append(l, api.Marked{X: -1, Steps: n})
			}
			for _, m := range l {
				k, known := want[m.X]
				if known && k != m.Steps || !known && m.Steps <= deep {
					t.Fatal(i, node, m, k, known)
				}
				delete(want, m.X)
				moves, e := Why(g, 1000, node, d, m.X)
				end, _, e2 := frames.Run(g, begin, moves...)
				_, in, _ := dfa.Run(d, end.Stack...)
				if e != 0 || e2 != 0 || len(moves) != m.Steps || end.Node != node || !in || m.X >= 0 && end.Marks>>m.X&1 == 0 {
					t.Fatal(i, node, m, e, e2)
				}
				shown++
			}
			if len(want) > 0 {
				t.Fatal(i, node, want)
			}
		}
	}
	if shown < 500 {
		t.Error(shown)
	}
}

func TestHeap(t *testing.T) {
	d := samples.New(3)
	var h heap
	for range 50 {
		for range 20 {
			h.push(item{steps: d.Below(30)})
		}
		last := -1
		for range d.Below(len(h)) + 1 {
			x := h.pop()
			if x.steps < last {
				t.Fatal(x, last)
			}
			last = x.steps
		}
	}
}
