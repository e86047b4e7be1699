package rows

import (
	"slices"
	"testing"

	"stackyard/api"
	"stackyard/samples"
)

// plain tells by definition all rows of a node.
func plain(g api.Grammar, n int) [][]api.Mark {
	node := g.Nodes[n]
	switch node.Kind {
	case api.NodeRule, api.NodeGiven:
		return [][]api.Mark{{{Given: node.Kind == api.NodeGiven, N: node.N}}}
	case api.NodeAny:
		var l [][]api.Mark
		for _, k := range node.Kids {
			l = append(l, plain(g, k)...)
		}
		return l
	}
	l := [][]api.Mark{nil}
	for _, k := range node.Kids {
		var next [][]api.Mark
		for _, x := range l {
			for _, y := range plain(g, k) {
				next = append(next, slices.Concat(x, y))
			}
		}
		l = next
	}
	return l
}

func TestRows(t *testing.T) {
	for i := range 400 {
		d := samples.New(i)
		var g api.Grammar
		for n := range 1 + d.Below(9) {
			node := api.Node{Kind: api.NodeKind(1 + d.Below(4))}
			if node.Kind >= api.NodeRule {
				node.N = d.Below(5)
			} else if n > 0 {
				for range d.Below(4) {
					node.Kids = append(node.Kids, d.Below(n))
				}
			}
			g.Nodes = append(g.Nodes, node)
		}
		want := plain(g, len(g.Nodes)-1)
		marks := 0
		for _, x := range want {
			marks += len(x)
		}
		r := Of(g, false)
		if r.Count() != (Count{len(want), marks}) {
			t.Fatal(g, r.Count())
		}
		var got [][]api.Mark
		for x := range r.All() {
			got = append(got, slices.Clone(x))
		}
		if !slices.EqualFunc(got, want, slices.Equal) {
			t.Fatal(g, got, want)
		}
		first := 0
		for x := range Of(g, true).All() {
			if !slices.Equal(x, want[0]) {
				t.Fatal(g, x)
			}
			first++
		}
		if first != min(len(want), 1) {
			t.Fatal(g)
		}
	}
}

// doubled is a grammar whose last node stands for its first one, doubled so often.
func doubled(first []api.Node, kind api.NodeKind, n int) api.Grammar {
	g := api.Grammar{Nodes: first}
	for range n {
		last := len(g.Nodes) - 1
		g.Nodes = append(g.Nodes, api.Node{Kind: kind, Kids: []int{last, last}})
	}
	return g
}

func TestGreat(t *testing.T) {
	rule := api.Node{Kind: api.NodeRule}
	if c := Of(doubled([]api.Node{rule}, api.NodeAny, 100), false).Count(); c != (Count{most, most}) {
		t.Error(c)
	}
	if c := Of(doubled([]api.Node{rule}, api.NodeAll, 61), false).Count(); c != (Count{1, 1 << 61}) {
		t.Error(c)
	}
	if c := Of(doubled([]api.Node{rule}, api.NodeAll, 100), false).Count(); c != (Count{1, most}) {
		t.Error(c)
	}
	maybe := []api.Node{{Kind: api.NodeAll}, rule, {Kind: api.NodeAny, Kids: []int{0, 1}}}
	for _, g := range []api.Grammar{doubled(maybe, api.NodeAll, 1<<19), doubled([]api.Node{{Kind: api.NodeAll}}, api.NodeAll, 1<<19)} {
		for x := range Of(g, true).All() {
			if len(x) != 0 {
				t.Error(len(x))
			}
		}
	}
	if c := Of(doubled([]api.Node{{Kind: api.NodeAny}}, api.NodeAll, 1<<19), false).Count(); c != (Count{}) {
		t.Error(c)
	}
	alt := []api.Node{rule, {Kind: api.NodeGiven}, {Kind: api.NodeAny, Kids: []int{0, 1}}}
	for x := range Of(doubled(alt, api.NodeAll, 22), true).All() {
		if len(x) != 1<<22 {
			t.Error(len(x))
		}
	}
	chain := api.Grammar{Nodes: []api.Node{rule}}
	for i := range 1 << 18 {
		chain.Nodes = append(chain.Nodes, api.Node{Kind: api.NodeAny, Kids: []int{i, 0}})
	}
	n := 0
	for range Of(chain, false).All() {
		n++
	}
	if n != 1<<18+1 {
		t.Error(n)
	}
}
