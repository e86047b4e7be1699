package witness

import (
	"stackyard/api"
	"stackyard/query"
	"stackyard/ring"
	"stackyard/rows"
	"stackyard/wfa"
)

// nodeMayBe tells whether a node may stand at its place, where there are so many rules and transitions.
func nodeMayBe(n api.Node, at, rules, given int) bool {
	most := given
	switch n.Kind {
	case api.NodeRule:
		most = rules
		fallthrough
	case api.NodeGiven:
		return n.N >= 0 && n.N < most && len(n.Kids) == 0
	case api.NodeAny, api.NodeAll:
		for _, k := range n.Kids {
			if k < 0 || k >= at {
				return false
			}
		}
		return n.N == 0
	}
	return false
}

// check is Check, and the query in its own form.
func check(p api.Pds, a api.Auto, g api.Grammar) (api.Auto, api.Errno) {
	if e := query.Check(p, a); e != api.OK {
		return api.Auto{}, e
	}
	if len(g.Nodes) < 1 || len(g.Nodes) > api.MaxGrammar {
		return api.Auto{}, api.ErrGrammar
	}
	own, _ := wfa.Canon(a)
	for i, n := range g.Nodes {
		if !nodeMayBe(n, i, len(p.Rules), len(own.Trans)) {
			return api.Auto{}, api.ErrGrammar
		}
	}
	return own, api.OK
}

// Check: may a grammar be?
func Check(p api.Pds, a api.Auto, g api.Grammar) api.Errno {
	_, e := check(p, a, g)
	return e
}

// Value: what all rows are worth.
func Value(p api.Pds, a api.Auto, g api.Grammar) (api.Weight, api.Errno) {
	own, e := check(p, a, g)
	if e != api.OK {
		return api.Weight{}, e
	}
	all := nodes{out: g.Nodes}
	needed := all.upTo(len(g.Nodes) - 1)
	r := ring.Of(p.Space)
	worth := make([]api.Weight, len(needed.Nodes))
	for i, n := range needed.Nodes {
		var kids []api.Weight
		for _, k := range n.Kids {
			kids = append(kids, worth[k])
		}
		switch n.Kind {
		case api.NodeRule:
			worth[i] = p.Rules[n.N].F
		case api.NodeGiven:
			worth[i] = own.Trans[n.N].W
		case api.NodeAny:
			worth[i] = r.Plus(kids...)
		case api.NodeAll:
			worth[i] = r.Times(kids...)
		}
	}
	return r.Copy(worth[len(worth)-1]), api.OK
}

// Count: how many rows there are, and how long they are, all in all.
func Count(p api.Pds, a api.Auto, g api.Grammar) (int, int, api.Errno) {
	if e := Check(p, a, g); e != api.OK {
		return 0, 0, e
	}
	c := rows.Of(g, false).Count()
	return c.Rows, c.Marks, api.OK
}

// First: the first row.
func First(p api.Pds, a api.Auto, g api.Grammar) ([]int, []int, bool, api.Errno) {
	if e := Check(p, a, g); e != api.OK {
		return nil, nil, false, e
	}
	for row := range rows.Of(g, true).All() {
		var rules, given []int
		for _, m := range row {
			if m.Given {
				given = append(given, m.N)
			} else {
				rules = append(rules, m.N)
			}
		}
		return rules, given, true, api.OK
	}
	return nil, nil, false, api.OK
}
