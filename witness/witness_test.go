package witness

import (
	"slices"
	"testing"

	"stackyard/api"
	"stackyard/post"
	"stackyard/pre"
	"stackyard/query"
	"stackyard/rows"
	"stackyard/samples"
	"stackyard/weight"
	"stackyard/wfa"
)

func conf(p int, w ...int) api.Conf { return api.Conf{P: p, W: w} }

// way is pre or post, to test both alike.
type way struct {
	back    bool
	make    func(api.Pds, api.Auto, int, ...int) (api.Saturated, api.Errno)
	explain func(api.Pds, api.Auto, api.Saturated, api.Conf) (api.Grammar, api.Errno)
}

func ways() []way { return []way{{false, pre.Make, Pre}, {true, post.Make, Post}} }

// sample is a system, a query of it, and what is saturated one way.
func sample(t *testing.T, i int, w way) (api.Pds, api.Auto, api.Saturated) {
	t.Helper()
	d := samples.New(i)
	longest := 2
	if !w.back {
		longest = 1 + i%4
	}
	p := d.Pds(samples.Spaces()[i%6], 2, 2, 3+i%4, longest)
	a := d.Query(p, 2, 5)
	s, e := w.make(p, a, 1<<40, i)
	if e != 0 {
		t.Fatal(e)
	}
	return p, a, s
}

// step applies a rule to a configuration of any number of symbols.
func step(p api.Pds, c api.Conf, rule int) (api.Conf, bool) {
	r := p.Rules[rule]
	if len(c.W) == 0 || r.P != c.P || r.G != c.W[0] {
		return c, false
	}
	return api.Conf{P: r.Q, W: slices.Concat(r.W, c.W[1:])}, true
}

// isWitness says by definition whether a row is a witness of a configuration.
func isWitness(p api.Pds, own api.Auto, back bool, c api.Conf, row []api.Mark) bool {
	var given, rules []int
	for _, m := range row {
		if m.Given {
			if !back {
				given = append(given, m.N)
			} else if len(rules) > 0 {
				return false
			} else {
				given = append([]int{m.N}, given...)
			}
		} else {
			if !back && len(given) > 0 {
				return false
			}
			rules = append(rules, m.N)
		}
	}
	at, ok := c, true
	if back {
		at = api.Conf{P: c.P}
		if len(given) > 0 {
			at.P = own.Trans[given[0]].From
		}
		for _, n := range given {
			at.W = append(at.W, own.Trans[n].Sym)
		}
	}
	begin := at
	for _, r := range rules {
		if at, ok = step(p, at, r); !ok {
			return false
		}
	}
	end := at
	if back {
		if end.P != c.P || !slices.Equal(end.W, c.W) {
			return false
		}
		end = begin
	}
	if end.P >= p.States || len(end.W) != len(given) {
		return false
	}
	state := end.P
	for k, n := range given {
		x := own.Trans[n]
		if x.From != state || x.Sym != end.W[k] {
			return false
		}
		state = x.To
	}
	return slices.Contains(own.Final, state)
}

func TestP18_1(t *testing.T) {
	total, found := 0, 0
	for _, w := range ways() {
		for i := range 90 {
			p, a, s := sample(t, i, w)
			own, _ := wfa.Canon(a)
			zero, _ := weight.Zero(p.Space)
			for c := range 2 {
				for _, stack := range samples.Words(3, 2) {
					g, e := w.explain(p, a, s, conf(c, stack...))
					if e != 0 || Check(p, a, g) != 0 {
						t.Fatal(i, e)
					}
					if len(g.Nodes) > 4*(len(s.Log)+(len(stack)+2)*(len(s.Auto.Trans)+s.Auto.States))+4 {
						t.Fatal(i, len(g.Nodes))
					}
					worth, _ := wfa.Value(s.Auto, w.back, c, stack...)
					if v, _ := Value(p, a, g); !weight.Same(v, worth) {
						t.Fatal(i, c, stack, v, worth)
					}
					r := rows.Of(g, false)
					if r.Count().Rows == 0 && !weight.Same(worth, zero) {
						t.Fatal(i, c, stack)
					}
					n := 0
					for row := range r.All() {
						if !isWitness(p, own, w.back, conf(c, stack...), row) {
							t.Fatal(w.back, i, p, a, c, stack, row)
						}
						total++
						if n++; n == 200 {
							break
						}
					}
					if n > 0 {
						found++
					}
				}
			}
		}
	}
	if total < 2000 || found < 300 {
		t.Error(total, found)
	}
}

func TestErrors(t *testing.T) {
	for _, w := range ways() {
		p, a, s := sample(t, 7, w)
		for i, c := range []struct {
			want   api.Errno
			change func(p *api.Pds, a *api.Auto, s *api.Saturated, c *api.Conf)
		}{
			{api.ErrSpace, func(p *api.Pds, a *api.Auto, s *api.Saturated, c *api.Conf) { p.Space.Tag, s.Log, c.P = 0, nil, 9 }},
			{api.ErrQuery, func(p *api.Pds, a *api.Auto, s *api.Saturated, c *api.Conf) { a.Symbols, s.Log, c.P = 9, nil, 9 }},
			{api.ErrLog, func(p *api.Pds, a *api.Auto, s *api.Saturated, c *api.Conf) { s.Log, c.P = s.Log[:1], 9 }},
			{api.ErrConf, func(p *api.Pds, a *api.Auto, s *api.Saturated, c *api.Conf) { c.P = 9 }},
			{api.ErrConf, func(p *api.Pds, a *api.Auto, s *api.Saturated, c *api.Conf) { c.W = []int{2} }},
		} {
			q, b, x, d := p, a, s, conf(0)
			c.change(&q, &b, &x, &d)
			if g, e := w.explain(q, b, x, d); e != c.want || g.Nodes != nil {
				t.Error(i, e)
			}
		}
		boolean := api.Space{Tag: api.Bool}
		q := api.Pds{Space: boolean, States: 1, Symbols: 1}
		b := api.Auto{Space: boolean, States: 65, Symbols: 1}
		for i := range 64 {
			b.Trans = append(b.Trans, api.Trans{From: i, To: i + 1})
		}
		x, e := w.make(q, b, 1<<20)
		if e != 0 {
			t.Fatal(e)
		}
		// 4 times (64 and n and 2 times 129), and 4, is at most 2^20 up to n of 2029.
		if _, e := w.explain(q, b, x, conf(0, make([]int, 2029)...)); e != 0 {
			t.Error(e)
		}
		if g, e := w.explain(q, b, x, conf(0, make([]int, 2030)...)); e != api.ErrMany || g.Nodes != nil {
			t.Error(e)
		}
	}
}

// example is the one of chapter 16, with the grammar of 0 1.
func example(t *testing.T) (api.Pds, api.Auto, api.Grammar) {
	t.Helper()
	p := api.Pds{Space: api.Space{Tag: api.Cost, Dim: 9}, States: 2, Symbols: 3, Rules: []api.Rule{{G: 1, W: []int{2, 1}, F: api.Weight{Cost: 1}}, {G: 2, Q: 1, F: api.Weight{Cost: 1}}}}
	a, _ := query.One(p, conf(1, 1))
	s, _ := pre.Make(p, a, 99)
	g, e := Pre(p, a, s, conf(0, 1))
	if e != 0 {
		t.Fatal(e)
	}
	return p, a, g
}

func TestCheck(t *testing.T) {
	p, a, g := example(t)
	if Check(p, a, g) != 0 {
		t.Error("Check")
	}
	for i, l := range [][]api.Node{nil, make([]api.Node, api.MaxGrammar+1), {{}}, {{Kind: 5}}, {{Kind: api.NodeRule, N: 2}}, {{Kind: api.NodeRule, N: -1}}, {{Kind: api.NodeGiven, N: 1}}, {{Kind: api.NodeAny, N: 1}}, {{Kind: api.NodeAll, Kids: []int{0}}}, {{Kind: api.NodeAny}, {Kind: api.NodeAny, Kids: []int{-1}}}, {{Kind: api.NodeAny}, {Kind: api.NodeRule, Kids: []int{0}}}} {
		bad := api.Grammar{Nodes: l}
		v, e1 := Value(p, a, bad)
		n, m, e2 := Count(p, a, bad)
		rules, given, ok, e3 := First(p, a, bad)
		for _, e := range []api.Errno{Check(p, a, bad), e1, e2, e3} {
			if e != api.ErrGrammar || !weight.Same(v, api.Weight{}) || n+m != 0 || rules != nil || given != nil || ok {
				t.Error(i, e)
			}
		}
	}
	if e := Check(p, api.Auto{}, api.Grammar{}); e != api.ErrSpace {
		t.Error(e)
	}
	full := api.Grammar{Nodes: slices.Repeat([]api.Node{{Kind: api.NodeAll}}, api.MaxGrammar)}
	if Check(p, a, full) != 0 {
		t.Error("at the limit")
	}
}

func TestP18_2(t *testing.T) {
	p, a, g := example(t)
	if v, e := Value(p, a, g); v.Cost != 2 || v.Zero || e != 0 {
		t.Error(v, e)
	}
	none := api.Grammar{Nodes: []api.Node{{Kind: api.NodeRule}, {Kind: api.NodeAny}}}
	if v, e := Value(p, a, none); !v.Zero || e != 0 {
		t.Error(v, e)
	}
	for i := range 60 {
		d := samples.New(i)
		p, a, _ := sample(t, i, ways()[0])
		own, _ := wfa.Canon(a)
		var g api.Grammar
		for n := range 7 {
			x := api.Node{Kind: api.NodeKind(1 + d.Below(2))}
			if d.Below(2) == 0 || n == 0 {
				x = api.Node{Kind: api.NodeRule, N: d.Below(len(p.Rules))}
				if len(own.Trans) > 0 && d.Below(2) == 0 {
					x = api.Node{Kind: api.NodeGiven, N: d.Below(len(own.Trans))}
				}
			} else {
				for range 1 + d.Below(3) {
					x.Kids = append(x.Kids, d.Below(n))
				}
			}
			g.Nodes = append(g.Nodes, x)
		}
		want, _ := weight.Zero(p.Space)
		n, marks := 0, 0
		var first []api.Mark
		for row := range rows.Of(g, false).All() {
			v, _ := weight.One(p.Space)
			for _, m := range row {
				w := p.Rules[0].F
				if m.Given {
					w = own.Trans[m.N].W
				} else {
					w = p.Rules[m.N].F
				}
				v, _ = weight.Extend(p.Space, v, w)
			}
			want, _ = weight.Combine(p.Space, want, v)
			if n == 0 {
				first = slices.Clone(row)
			}
			n, marks = n+1, marks+len(row)
		}
		if v, e := Value(p, a, g); !weight.Same(v, want) || e != 0 {
			t.Fatal(i, v, want, e)
		}
		if x, y, e := Count(p, a, g); x != n || y != marks || e != 0 {
			t.Fatal(i, x, y, e)
		}
		rules, given, ok, e := First(p, a, g)
		var back []api.Mark
		for _, m := range first {
			if m.Given {
				back, given = append(back, api.Mark{Given: true, N: given[0]}), given[1:]
			} else {
				back, rules = append(back, api.Mark{N: rules[0]}), rules[1:]
			}
		}
		if !slices.Equal(back, first) || len(rules)+len(given) > 0 || !ok || e != 0 {
			t.Fatal(i, first, rules, given, ok, e)
		}
	}
}

func TestP18_3(t *testing.T) {
	p, a, g := example(t)
	if n, m, e := Count(p, a, g); n != 1 || m != 3 || e != 0 {
		t.Error(n, m, e)
	}
	great := api.Grammar{Nodes: []api.Node{{Kind: api.NodeRule}, {Kind: api.NodeAny, Kids: []int{0, 0}}}}
	for i := range 70 {
		great.Nodes = append(great.Nodes, api.Node{Kind: api.NodeAll, Kids: []int{i + 1, i + 1}})
	}
	if n, m, e := Count(p, a, great); n != 1<<62 || m != 1<<62 || e != 0 {
		t.Error(n, m, e)
	}
}

func TestP18_4(t *testing.T) {
	p, a, g := example(t)
	if rules, given, ok, e := First(p, a, g); !slices.Equal(rules, []int{0, 1}) || !slices.Equal(given, []int{0}) || !ok || e != 0 {
		t.Error(rules, given, ok, e)
	}
	none := api.Grammar{Nodes: []api.Node{{Kind: api.NodeRule}, {Kind: api.NodeAny}, {Kind: api.NodeAll, Kids: []int{0, 1}}}}
	if rules, given, ok, e := First(p, a, none); rules != nil || given != nil || ok || e != 0 {
		t.Error(rules, given, ok, e)
	}
}

func TestP18_5(t *testing.T) {
	for _, w := range ways() {
		for i := range 60 {
			p, a, s := sample(t, i, w)
			own, _ := wfa.Canon(a)
			zero, _ := weight.Zero(p.Space)
			for _, stack := range samples.Words(3, 2) {
				g, _ := w.explain(p, a, s, conf(0, stack...))
				worth, _ := Value(p, a, g)
				rules, given, ok, e := First(p, a, g)
				if e != 0 || !ok && !weight.Same(worth, zero) {
					t.Fatal(i, e)
				}
				if !ok {
					continue
				}
				var l []api.Weight
				for _, n := range rules {
					l = append(l, p.Rules[n].F)
				}
				var m []api.Weight
				for _, n := range given {
					m = append(m, own.Trans[n].W)
				}
				v, _ := weight.Extend(p.Space, append(l, m...)...)
				if w.back {
					v, _ = weight.Extend(p.Space, append(m, l...)...)
				}
				if below, _ := weight.Below(p.Space, v, worth); !below {
					t.Fatal(i, v, worth)
				}
			}
		}
	}
}
