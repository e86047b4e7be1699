// Package rows is what a grammar stands for: how many rows, and the rows themselves, without ever going through what adds nothing to them.
package rows

import (
	"iter"
	"math/bits"

	"stackyard/api"
)

// most is what counts are cut at.
const most = 1 << 62

// plus is a sum, cut.
func plus(a, b int) int {
	if a > most-b {
		return most
	}
	return a + b
}

// times is a product, cut.
func times(a, b int) int {
	high, low := bits.Mul64(uint64(a), uint64(b))
	if high > 0 || low > most {
		return most
	}
	return int(low)
}

// Count is how many rows there are, and how many marks they have, all in all; cut at 2^62.
type Count struct{ Rows, Marks int }

// then is the count of all rows of one, each followed by all of another one.
func (c Count) then(d Count) Count {
	return Count{times(c.Rows, d.Rows), plus(times(c.Marks, d.Rows), times(d.Marks, c.Rows))}
}

// nothing tells whether there is just one row, and that is empty.
func (c Count) nothing() bool { return c.Rows == 1 && c.Marks == 0 }

// Rows is a grammar's: of each node what it stands for; the node that stands for the same, if it has but one Kid that matters; and the Kids that matter.
type Rows struct {
	nodes  []api.Node
	counts []Count
	same   []int
	kids   [][]int
}

// Of is the rows of a grammar that may be; first: only the first one.
func Of(g api.Grammar, first bool) *Rows {
	n := len(g.Nodes)
	r := &Rows{nodes: g.Nodes, counts: make([]Count, n), same: make([]int, n), kids: make([][]int, n)}
	for i, node := range g.Nodes {
		r.same[i] = i
		switch node.Kind {
		case api.NodeAny:
			r.choice(i, node.Kids, first)
		case api.NodeAll:
			r.row(i, node.Kids)
		default:
			r.counts[i] = Count{1, 1}
		}
		if len(r.kids[i]) == 1 {
			r.same[i] = r.kids[i][0]
		}
	}
	return r
}

// choice takes the Kids that have rows.
func (r *Rows) choice(i int, kids []int, first bool) {
	for _, k := range kids {
		c := r.counts[k]
		if c.Rows == 0 {
			continue
		}
		r.counts[i] = Count{plus(r.counts[i].Rows, c.Rows), plus(r.counts[i].Marks, c.Marks)}
		r.kids[i] = append(r.kids[i], r.same[k])
		if first {
			return
		}
	}
}

// row takes the Kids that are more than one empty row.
func (r *Rows) row(i int, kids []int) {
	all := Count{Rows: 1}
	for _, k := range kids {
		c := r.counts[k]
		all = all.then(c)
		if !c.nothing() {
			r.kids[i] = append(r.kids[i], r.same[k])
		}
	}
	r.counts[i] = all
}

// Count is that of the grammar.
func (r *Rows) Count() Count { return r.counts[len(r.counts)-1] }

// link is the nodes that are still to be gone through in a row.
type link struct {
	node int
	next *link
}

// walk tells all rows that begin as one does and go on by what is left; false: nobody wants more.
func (r *Rows) walk(left *link, row []api.Mark, yield func([]api.Mark) bool) bool {
	for left != nil {
		n := left.node
		left = left.next
		kids := r.kids[n]
		switch kind := r.nodes[n].Kind; kind {
		case api.NodeAny:
			last := len(kids) - 1
			for _, k := range kids[:last] {
				if !r.walk(&link{k, left}, row, yield) {
					return false
				}
			}
			left = &link{kids[last], left}
		case api.NodeAll:
			for i := range kids {
				left = &link{kids[len(kids)-1-i], left}
			}
		default:
			row = append(row, api.Mark{Given: kind == api.NodeGiven, N: r.nodes[n].N})
		}
	}
	return yield(row)
}

// All tells all rows, in order; each is good only until the next one.
func (r *Rows) All() iter.Seq[[]api.Mark] {
	return func(yield func([]api.Mark) bool) {
		if r.Count().Rows > 0 {
			r.walk(&link{r.same[len(r.same)-1], nil}, nil, yield)
		}
	}
}
