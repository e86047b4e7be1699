package encode

import (
	"slices"
	"strconv"
	"strings"
	"testing"

	"stackyard/api"
	"stackyard/dfa"
	"stackyard/graph"
	"stackyard/pds"
	"stackyard/query"
	"stackyard/regex"
	"stackyard/samples"
	"stackyard/steps"
	"stackyard/syntax"
	"stackyard/weight"
)

func build(t *testing.T, s string) api.Graph {
	t.Helper()
	p, line, col, e := syntax.Parse(s)
	if e != 0 {
		t.Fatal(s, line, col, e)
	}
	g, spot, e := graph.Make(p)
	if e != 0 {
		t.Fatal(s, spot, e)
	}
	return g
}

const every = `var x, y;
proc f { either { call f; } or { skip; } }
proc main { x = 7; y = x; x = *; mark x; clean y; call f from a; call f from b; }`

func modes() []api.Mode { return []api.Mode{api.ModeReach, api.ModeTaint, api.ModeConst} }

func TestErrors(t *testing.T) {
	g := build(t, every)
	for _, c := range []struct {
		g    api.Graph
		m    api.Mode
		want api.Errno
	}{{api.Graph{}, 0, api.ErrGraph}, {g, 0, api.ErrArg}, {g, 4, api.ErrArg}, {g, -1, api.ErrArg}} {
		p, e1 := Pds(c.g, c.m)
		w, e2 := Weight(c.g, c.m, -1)
		a, e3 := Start(c.g, c.m)
		if e1 != c.want || e2 != c.want || e3 != c.want || p.States != 0 || !weight.Same(w, api.Weight{}) || a.States != 0 {
			t.Error(e1, e2, e3)
		}
	}
	for _, m := range modes() {
		for _, n := range []int{-1, len(g.Steps)} {
			if w, e := Weight(g, m, n); e != api.ErrRange || !weight.Same(w, api.Weight{}) {
				t.Error(e)
			}
		}
	}
	if _, e := Conf(api.Graph{}, 99); e != api.ErrGraph {
		t.Error(e)
	}
	if _, _, e := Sites(api.Graph{}, api.Conf{}); e != api.ErrGraph {
		t.Error(e)
	}
	if _, e := Lang(api.Graph{}, api.Regex{}); e != api.ErrGraph {
		t.Error(e)
	}
}

func TestP23_1(t *testing.T) {
	g := build(t, "proc main { call f; at p; } proc f { }")
	p, e := Pds(g, api.ModeReach)
	want := []api.Rule{{G: 0, W: []int{3, 2}}, {G: 2, W: []int{1}}, {G: 3, W: []int{4}}, {G: 1}, {G: 4}}
	if e != 0 || !pds.Same(p, api.Pds{Space: api.Space{Tag: api.Bool}, States: 1, Symbols: 5, Rules: want}) {
		t.Error(p, e)
	}
	g = build(t, every)
	texts := map[api.Mode][]string{
		api.ModeReach: {"one"},
		api.ModeTaint: {"[1|{}:{};{1}]", "[1|{}:{0,1};{}]", "[1|{}:{};{1}]", "[1|{0}:{};{1}]", "[1|{}:{0};{}]", "[1|{}:{0};{1}]", "[1|{}:{0};{1}]"},
		api.ModeConst: {"{}+7;{1}", "{0};{0}", "{}*;{1}", "{0};{1}", "{0};{1}", "{0};{1}", "{0};{1}"},
	}
	for _, m := range modes() {
		p, e := Pds(g, m)
		if e != 0 || pds.Check(p) != 0 || len(p.Rules) != len(g.Steps)+2 {
			t.Fatal(m, p, e)
		}
		first := slices.IndexFunc(g.Steps, func(s api.Step) bool { return s.Kind == api.SSet })
		for i := range 7 {
			w, e := Weight(g, m, first+i)
			s, _ := weight.Text(p.Space, w)
			if want := texts[m][i%len(texts[m])]; s != want || e != 0 {
				t.Error(m, i, s, want, e)
			}
		}
		for i := range g.Steps {
			if w, _ := Weight(g, m, i); !weight.Same(w, p.Rules[i].F) {
				t.Error(m, i)
			}
		}
		last, _ := weight.Text(p.Space, p.Rules[len(p.Rules)-1].F)
		if want := map[api.Mode]string{1: "one", 2: "[1|{}:{0};{1}]", 3: "{0};{1}"}[m]; last != want {
			t.Error(m, last)
		}
		a, e := Start(g, m)
		w, _ := weight.Text(p.Space, a.Trans[0].W)
		if want := map[api.Mode]string{1: "one", 2: "[0|{}:{0};{1}]", 3: "{}+0;{}+0"}[m]; e != 0 || w != want || query.Check(p, a) != 0 || a.States != 2 || !slices.Equal(a.Final, []int{1}) || len(a.Trans) != 1 || a.Trans[0].Sym != g.Entry[g.Main] || a.Trans[0].To != 1 {
			t.Error(m, a, w, e)
		}
	}
}

func TestP23_2(t *testing.T) {
	g := build(t, "proc main { call f; at p; } proc f { }")
	if c, e := Conf(g, 3, 0); e != 0 || c.P != 0 || !slices.Equal(c.W, []int{3, 2}) {
		t.Error(c, e)
	}
	for _, b := range [][]int{{-1}, {5}, {0, 1}, {0, -1}} {
		if c, e := Conf(g, b[0], b[1:]...); e != api.ErrRange || c.W != nil {
			t.Error(b, c, e)
		}
	}
	if c, e := Conf(g, 0, make([]int, 4095)...); e != 0 || len(c.W) != 4096 {
		t.Error(e)
	}
	if c, e := Conf(g, 0, make([]int, 4096)...); e != api.ErrLong || c.W != nil {
		t.Error(e)
	}
	if _, e := Conf(g, 0, append(make([]int, 4096), 1)...); e != api.ErrRange {
		t.Error(e)
	}
	for _, c := range []api.Conf{{}, {P: 1, W: []int{0}}, {W: []int{5}}, {W: []int{-1}}, {W: []int{0, 1}}, {W: []int{0, 5}}, {W: []int{0, -1}}, {W: slices.Repeat([]int{2}, 4097)}} {
		if n, l, e := Sites(g, c); e != api.ErrConf || n != 0 || l != nil {
			t.Error(n, l, e)
		}
	}
	if n, l, e := Sites(g, api.Conf{W: slices.Repeat([]int{2}, 4096)}); e != 0 || n != 2 || len(l) != 4095 {
		t.Error(n, len(l), e)
	}
	g.Steps = append(g.Steps, api.Step{From: 1, To: 2, Kind: api.SCall, Site: 1})
	g.Sites = append(g.Sites, api.Site{Name: "again", Proc: 0, From: 1, Back: 2})
	if n, l, e := Sites(g, api.Conf{W: []int{4, 2, 2}}); e != 0 || n != 4 || !slices.Equal(l, []int{0, 0}) {
		t.Error(n, l, e)
	}
}

func parse(s string) api.Regex {
	r, _, _ := regex.Parse(s)
	return r
}

func TestP23_3(t *testing.T) {
	g := build(t, every)
	names := map[string]int{}
	for i, s := range g.Sites {
		names[s.Name] = i
	}
	for _, text := range []string{".*", "a | b", "f_0* a", "!(. a)", "%", "#", "(a b)* !f_0"} {
		r := parse(text)
		d, e := Lang(g, r)
		if least, _ := dfa.Least(d); e != 0 || d.Symbols != len(g.Of) || !dfa.Same(d, least) {
			t.Fatal(text, d, e)
		}
		for _, w := range samples.Words(3, len(g.Of)) {
			want := true
			var word []string
			for _, n := range w {
				k := slices.IndexFunc(g.Sites, func(s api.Site) bool { return s.Back == n })
				if k < 0 {
					want = false
					break
				}
				word = append(word, g.Sites[k].Name)
			}
			if want {
				want, _ = regex.Match(r, word...)
			}
			if _, ok, _ := dfa.Run(d, w...); ok != want {
				t.Fatal(text, w, ok)
			}
		}
	}
	for s, want := range map[string]api.Errno{"c": api.ErrName, "": api.ErrRegex} {
		if d, e := Lang(g, parse(s)); e != want || d.Next != nil {
			t.Error(s, e)
		}
	}
	same := g
	same.Sites = slices.Clone(g.Sites)
	same.Sites[0].Name = "a"
	if _, e := Lang(same, parse("a")); e != api.ErrNames {
		t.Error(e)
	}
	shared := g
	shared.Steps = slices.Clone(g.Steps)
	shared.Sites = append(slices.Clone(g.Sites), api.Site{Name: "z", Proc: 0, From: g.Sites[0].From, Back: g.Sites[0].Back})
	shared.Steps = append(shared.Steps, api.Step{From: g.Sites[0].From, To: g.Sites[0].Back, Kind: api.SCall, Site: 3})
	for s, want := range map[string]bool{"z": false, "f_0": true} {
		d, e := Lang(shared, parse(s))
		if _, ok, _ := dfa.Run(d, g.Sites[0].Back); ok != want || e != 0 {
			t.Error(s, ok, e)
		}
	}
	big := build(t, "proc main { call main from a; "+strings.Repeat("skip; ", 4093)+"}")
	dots := func(n int) api.Regex { return parse("a" + strings.Repeat(" a", n-1)) }
	if _, e := Lang(big, dots(13)); e != 0 {
		t.Error(e)
	}
	if d, e := Lang(big, dots(14)); e != api.ErrMany || d.Next != nil {
		t.Error(e)
	}
	few := build(t, "proc main { call main from a; }")
	var kids []api.Regex
	for range 7 {
		kids = append(kids, parse("a"+strings.Repeat(" a", 60)))
	}
	long, _ := regex.Join(api.RSeq, kids...)
	if _, e := Lang(few, long); e != 0 {
		t.Error(e)
	}
	two := build(t, "proc main { call main from a; call main from b; }")
	if d, e := Lang(two, parse(".* a"+strings.Repeat(" .", 9))); e != api.ErrMany || d.Next != nil {
		t.Error("one state more than may be", e)
	}
}

func same(c, d api.Conf) bool { return c.P == d.P && slices.Equal(c.W, d.W) }

func TestP23_4(t *testing.T) {
	g := build(t, every)
	p, _ := Pds(g, api.ModeReach)
	for node := range g.Of {
		for _, sites := range samples.Words(2, len(g.Sites)) {
			c, _ := Conf(g, node, sites...)
			var want []api.Conf
			for _, s := range g.Steps {
				if s.From != node {
					continue
				}
				to, open := s.To, sites
				if s.Kind == api.SCall {
					to, open = g.Entry[g.Sites[s.Site].Proc], append([]int{s.Site}, sites...)
				}
				d, _ := Conf(g, to, open...)
				want = append(want, d)
			}
			if slices.Contains(g.Exit, node) && len(sites) > 0 {
				d, _ := Conf(g, g.Sites[sites[0]].Back, sites[1:]...)
				want = append(want, d)
			}
			_, got, e := steps.Next(p, c)
			if slices.Contains(g.Exit, node) && len(sites) == 0 {
				got = got[:len(got)-1]
			}
			if e != 0 || !slices.EqualFunc(got, want, same) {
				t.Fatal(node, sites, got, want)
			}
		}
	}
}

func TestP23_5(t *testing.T) {
	g := build(t, every)
	for node := range g.Of {
		for _, sites := range samples.Words(3, len(g.Sites)) {
			c, _ := Conf(g, node, sites...)
			if n, l, e := Sites(g, c); n != node || !slices.Equal(l, sites) || e != 0 {
				t.Fatal(strconv.Itoa(node), sites, l, e)
			}
		}
	}
}
