package check

import (
	"slices"
	"testing"

	"stackyard/api"
	"stackyard/post"
	"stackyard/pre"
	"stackyard/query"
	"stackyard/samples"
	"stackyard/weight"
	"stackyard/wfa"
	"stackyard/witness"
)

func conf(p int, w ...int) api.Conf { return api.Conf{P: p, W: w} }

func rule(n int) api.Mark { return api.Mark{N: n} }

func given(n int) api.Mark { return api.Mark{Given: true, N: n} }

// example is the one of chapter 16.
func example() (api.Pds, api.Auto) {
	p := api.Pds{Space: api.Space{Tag: api.Cost, Dim: 9}, States: 2, Symbols: 3, Rules: []api.Rule{{G: 1, W: []int{2, 1}, F: api.Weight{Cost: 1}}, {G: 2, Q: 1, F: api.Weight{Cost: 1}}, {P: 1, G: 1, Q: 1}}}
	a, _ := query.One(p, conf(1, 1))
	return p, a
}

// any2 stands for two rows: rules 0, 1 and the transition, and the transition alone.
func any2() api.Grammar {
	return api.Grammar{Nodes: []api.Node{{Kind: api.NodeGiven}, {Kind: api.NodeRule}, {Kind: api.NodeRule, N: 1}, {Kind: api.NodeAll, Kids: []int{1, 2, 0}}, {Kind: api.NodeAny, Kids: []int{3, 0}}}}
}

func TestP19_1(t *testing.T) {
	p, a := example()
	l, e := Expand(p, a, any2(), 6)
	if e != 0 || len(l) != 2 || !slices.Equal(l[0], []api.Mark{rule(0), rule(1), given(0)}) || !slices.Equal(l[1], []api.Mark{given(0)}) {
		t.Error(l, e)
	}
	if l, e := Expand(p, a, any2(), 5); l != nil || e != api.ErrBudget {
		t.Error(l, e)
	}
	for _, b := range []int{-1, api.MaxBudget + 1} {
		if l, e := Expand(p, a, any2(), b); l != nil || e != api.ErrArg {
			t.Error(l, e)
		}
		if l, e := Expand(p, a, api.Grammar{}, b); l != nil || e != api.ErrGrammar {
			t.Error(l, e)
		}
		if l, e := Expand(p, api.Auto{}, api.Grammar{}, b); l != nil || e != api.ErrSpace {
			t.Error(l, e)
		}
	}
	none := api.Grammar{Nodes: []api.Node{{Kind: api.NodeAny}}}
	if l, e := Expand(p, a, none, 0); len(l) != 0 || e != 0 {
		t.Error(l, e)
	}
	empty := api.Grammar{Nodes: []api.Node{{Kind: api.NodeAll}}}
	if l, e := Expand(p, a, empty, 0); l != nil || e != api.ErrBudget {
		t.Error(l, e)
	}
	if l, e := Expand(p, a, empty, 1); len(l) != 1 || len(l[0]) != 0 || e != 0 {
		t.Error(l, e)
	}
	great := api.Grammar{Nodes: []api.Node{{Kind: api.NodeRule}}}
	for i := range 200 {
		great.Nodes = append(great.Nodes, api.Node{Kind: api.NodeKind(1 + i%2), Kids: []int{i, i}})
	}
	if l, e := Expand(p, a, great, api.MaxBudget); l != nil || e != api.ErrBudget {
		t.Error(len(l), e)
	}
	full := api.Grammar{Nodes: slices.Clone(empty.Nodes)}
	for i := range 20 {
		full.Nodes = append(full.Nodes, api.Node{Kind: api.NodeAny, Kids: []int{i, i}})
	}
	if l, e := Expand(p, a, full, api.MaxBudget); len(l) != api.MaxBudget || e != 0 {
		t.Error(len(l), e)
	}
}

func TestP19_2(t *testing.T) {
	p, a := example()
	for i, c := range []struct {
		c    api.Conf
		row  []api.Mark
		want int
	}{
		{conf(0, 1), []api.Mark{rule(0), rule(1), given(0)}, 2},
		{conf(1, 1), []api.Mark{given(0)}, 0},
		{conf(0, 1), []api.Mark{rule(0), rule(1)}, -1},
		{conf(0, 1), []api.Mark{rule(0), given(0), rule(1)}, -1},
		{conf(0, 1), []api.Mark{given(0), rule(0), rule(1)}, -1},
		{conf(0, 1), []api.Mark{rule(1), rule(0), given(0)}, -1},
		{conf(0, 1), []api.Mark{rule(0), rule(1), given(0), given(0)}, -1},
		{conf(0, 1), []api.Mark{rule(0), rule(3)}, -1},
		{conf(0, 1), []api.Mark{rule(-1)}, -1},
		{conf(1, 1), []api.Mark{given(1)}, -1},
		{conf(1, 1), []api.Mark{given(-1)}, -1},
		{conf(1, 1, 1), []api.Mark{given(0)}, -1},
		{conf(1, 1), []api.Mark{rule(2)}, -1},
		{conf(1, 1), []api.Mark{rule(99), given(0)}, -1},
		{conf(1, 1), []api.Mark{rule(3), given(0)}, -1},
		{conf(1, 1), []api.Mark{rule(-1), given(0)}, -1},
		{conf(1, 1), []api.Mark{given(0), given(1)}, -1},
		{conf(1, 1), []api.Mark{given(0), given(-1)}, -1},
		{conf(1), nil, -1},
		{conf(0, 1), nil, -1},
	} {
		w, ok, e := Pre(p, a, c.c, c.row...)
		if e != 0 || ok != (c.want >= 0) || ok && (w.Cost != c.want || w.Zero) || !ok && !weight.Same(w, api.Weight{}) {
			t.Error(i, w, ok, e)
		}
	}
	b, _ := query.One(p, conf(0, 1))
	for i, c := range []struct {
		c    api.Conf
		row  []api.Mark
		want int
	}{
		{conf(1, 1), []api.Mark{given(0), rule(0), rule(1)}, 2},
		{conf(0, 1), []api.Mark{given(0)}, 0},
		{conf(1), []api.Mark{given(0), rule(0), rule(1), rule(2)}, 2},
		{conf(1, 1), []api.Mark{rule(0), rule(1), given(0)}, -1},
		{conf(1, 1), []api.Mark{given(0), rule(0)}, -1},
		{conf(1, 1), []api.Mark{given(0), given(0), rule(0), rule(1)}, -1},
		{conf(1, 1), []api.Mark{given(0), rule(0), given(0), rule(1)}, -1},
		{conf(1, 1), []api.Mark{given(0), rule(9)}, -1},
		{conf(1, 1), []api.Mark{given(-1), rule(0)}, -1},
		{conf(1, 1), []api.Mark{given(1)}, -1},
		{conf(0, 1), []api.Mark{given(0), given(1)}, -1},
		{conf(0, 1), []api.Mark{given(0), given(-1)}, -1},
		{conf(0, 1), []api.Mark{given(0), rule(99)}, -1},
		{conf(1), nil, -1},
		{conf(0), nil, -1},
	} {
		w, ok, e := Post(p, b, c.c, c.row...)
		if e != 0 || ok != (c.want >= 0) || ok && (w.Cost != c.want || w.Zero) || !ok && !weight.Same(w, api.Weight{}) {
			t.Error(i, w, ok, e)
		}
	}
	two, _ := query.One(p, conf(0, 1, 2))
	if _, ok, _ := Post(p, two, conf(0, 1, 2), given(1), given(0)); !ok {
		t.Error("the last one ahead")
	}
	if _, ok, _ := Post(p, two, conf(0, 1, 2), given(0), given(1)); ok {
		t.Error("the first one ahead")
	}
	end, _ := query.One(p, conf(1))
	for _, f := range []func(api.Pds, api.Auto, api.Conf, ...api.Mark) (api.Weight, bool, api.Errno){Pre, Post} {
		if w, ok, e := f(p, end, conf(1)); w.Cost != 0 || !ok || e != 0 {
			t.Error(w, ok, e)
		}
		if _, ok, _ := f(p, end, conf(0)); ok {
			t.Error("another control state")
		}
		if _, ok, _ := f(p, end, conf(1, 1)); ok {
			t.Error("a symbol is left")
		}
		if w, ok, e := f(p, a, conf(9), given(99)); e != api.ErrConf || ok || !weight.Same(w, api.Weight{}) {
			t.Error(ok, e)
		}
		if _, _, e := f(p, api.Auto{}, conf(9)); e != api.ErrSpace {
			t.Error(e)
		}
	}
	grow := api.Pds{Space: p.Space, States: 1, Symbols: 1, Rules: []api.Rule{{W: make([]int, api.MaxWord)}, {}}}
	tall, _ := query.One(grow, conf(0))
	row := []api.Mark{rule(0), rule(0)}
	for range 2*api.MaxWord - 1 {
		row = append(row, rule(1))
	}
	if _, ok, e := Pre(grow, tall, conf(0, 0), row...); !ok || e != 0 {
		t.Error("any number of symbols between", ok, e)
	}
}

func TestP19_3(t *testing.T) {
	p, a := example()
	g := any2()
	if w, ok, at, e := All(p, a, false, conf(0, 1), g, 99); ok || at != 1 || e != 0 || !weight.Same(w, api.Weight{}) {
		t.Error(w, ok, at, e)
	}
	if w, ok, at, e := All(p, a, false, conf(1, 1), g, 99); ok || at != 0 || e != 0 || !weight.Same(w, api.Weight{}) {
		t.Error(w, ok, at, e)
	}
	g.Nodes = g.Nodes[:4]
	if w, ok, at, e := All(p, a, false, conf(0, 1), g, 4); !ok || at != 0 || e != 0 || w.Cost != 2 || w.Zero {
		t.Error(w, ok, at, e)
	}
	none := api.Grammar{Nodes: []api.Node{{Kind: api.NodeAny}}}
	if w, ok, at, e := All(p, a, true, conf(0, 1), none, 0); !ok || at != 0 || e != 0 || !w.Zero {
		t.Error(w, ok, at, e)
	}
	for i, c := range []struct {
		a      api.Auto
		c      api.Conf
		g      api.Grammar
		budget int
		want   api.Errno
	}{{api.Auto{}, conf(9), api.Grammar{}, -1, api.ErrSpace}, {a, conf(9), api.Grammar{}, -1, api.ErrConf}, {a, conf(0), api.Grammar{}, -1, api.ErrGrammar}, {a, conf(0), g, -1, api.ErrArg}, {a, conf(0), g, 3, api.ErrBudget}} {
		if w, ok, at, e := All(p, c.a, false, c.c, c.g, c.budget); ok || at != 0 || e != c.want || !weight.Same(w, api.Weight{}) {
			t.Error(i, ok, at, e)
		}
	}
}

func TestP19_4(t *testing.T) {
	if s := Text(rule(0), rule(1), given(0), given(-12)); s != "r0 r1 t0 t-12" {
		t.Error(s)
	}
	if s := Text(); s != "-" {
		t.Error(s)
	}
}

// each tells samples: what is saturated, one way or the other, and grammars of configurations.
func each(t *testing.T, f func(p api.Pds, a api.Auto, back bool, s api.Saturated, c api.Conf, g api.Grammar)) {
	t.Helper()
	for i := range 80 {
		back := i%2 == 0
		d := samples.New(i)
		p := d.Pds(samples.Spaces()[i/2%6], 2, 2, 3+i%3, 2)
		a := d.Query(p, 2, 5)
		saturate, explain := pre.Make, witness.Pre
		if back {
			saturate, explain = post.Make, witness.Post
		}
		s, e := saturate(p, a, 1<<40)
		if e != 0 {
			t.Fatal(e)
		}
		for _, w := range samples.Words(2, 2) {
			c := conf(i/3%2, w...)
			g, e := explain(p, a, s, c)
			if e != 0 {
				t.Fatal(e)
			}
			f(p, a, back, s, c, g)
		}
	}
}

func TestP19_5(t *testing.T) {
	n := 0
	each(t, func(p api.Pds, a api.Auto, back bool, s api.Saturated, c api.Conf, g api.Grammar) {
		w, ok, at, e := All(p, a, back, c, g, api.MaxBudget)
		if e == api.ErrBudget {
			return
		}
		worth, _ := wfa.Value(s.Auto, back, c.P, c.W...)
		if !ok || at != 0 || e != 0 || !weight.Same(w, worth) {
			t.Fatal(p, a, c, ok, at, e)
		}
		n++
	})
	if n < 200 {
		t.Error(n)
	}
}

func TestP19_6(t *testing.T) {
	d := samples.New(5)
	n := 0
	each(t, func(p api.Pds, a api.Auto, back bool, s api.Saturated, c api.Conf, _ api.Grammar) {
		own, _ := wfa.Canon(a)
		worth, _ := wfa.Value(s.Auto, back, c.P, c.W...)
		for range 200 {
			var g api.Grammar
			row := api.Node{Kind: api.NodeAll}
			for k := range d.Below(5) {
				x := api.Node{Kind: api.NodeRule, N: d.Below(len(p.Rules))}
				if len(own.Trans) > 0 && d.Below(2) == 0 {
					x = api.Node{Kind: api.NodeGiven, N: d.Below(len(own.Trans))}
				}
				g.Nodes = append(g.Nodes, x)
				row.Kids = append(row.Kids, k)
			}
			g.Nodes = append(g.Nodes, row)
			w, ok, _, e := All(p, a, back, c, g, 99)
			if e != 0 {
				t.Fatal(e)
			}
			if below, _ := weight.Below(p.Space, w, worth); ok && !below {
				t.Fatal(p, a, c, g)
			}
			if ok {
				n++
			}
		}
	})
	if n < 100 {
		t.Error(n)
	}
}

func TestP19_7(t *testing.T) {
	each(t, func(p api.Pds, a api.Auto, back bool, s api.Saturated, c api.Conf, g api.Grammar) {
		l, e := Expand(p, a, g, 2000)
		if e != 0 {
			return
		}
		for _, other := range []api.Conf{c, conf(1-c.P, c.W...)} {
			_, all, at, _ := All(p, a, back, other, g, 2000)
			first := -1
			for i, row := range l {
				f := Pre
				if back {
					f = Post
				}
				if _, ok, _ := f(p, a, other, row...); !ok && first < 0 {
					first = i
				}
			}
			if all != (first < 0) || !all && at != first {
				t.Fatal(all, at, first)
			}
		}
	})
}
