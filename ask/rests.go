package ask

import "stackyard/api"

// arc leads from a pair to another one by a symbol, or without one (-1).
type arc struct{ sym, to int }

// rests finds the first rest behind a top that has a path, whatever that is worth.
type rests struct {
	*pairs
	arcs  [][]arc
	into  [][]arc
	begin []int
	seen  []int
	round int
}

func newRests(a api.Auto, from, top int, d api.Dfa) *rests {
	r := &rests{pairs: newPairs(a, d)}
	for s := range r.beneath(from) {
		for _, i := range r.out[s] {
			if t := a.Trans[i]; t.Sym == top {
				r.begin = append(r.begin, r.meet(t.To, 0))
			}
		}
	}
	for n, k := range r.all() {
		r.arcs = append(r.arcs, nil)
		for _, i := range r.out[k[0]] {
			t := a.Trans[i]
			r.arcs[n] = append(r.arcs[n], arc{t.Sym, r.past(k[1], t)})
		}
	}
	r.into = make([][]arc, len(r.list))
	for n, l := range r.arcs {
		for _, x := range l {
			r.into[x.to] = append(r.into[x.to], arc{x.sym, n})
		}
	}
	r.seen = make([]int, len(r.list))
	return r
}

// beneath are the states to which transitions without symbols lead from one, and it.
func (r *rests) beneath(from int) map[int]struct{} {
	met := map[int]struct{}{from: {}}
	work := []int{from}
	for len(work) > 0 {
		s := work[0]
		work = work[1:]
		for _, i := range r.out[s] {
			t := r.auto.Trans[i]
			if _, known := met[t.To]; t.Sym < 0 && !known {
				met[t.To] = struct{}{}
				work = append(work, t.To)
			}
		}
	}
	return met
}

// close is some pairs, each once, and all to which arcs without symbols lead from them.
func (r *rests) close(l []int, arcs [][]arc) []int {
	r.round++
	var all []int
	meet := func(n int) {
		if r.seen[n] != r.round {
			r.seen[n] = r.round
			all = append(all, n)
		}
	}
	for _, n := range l {
		meet(n)
	}
	for i := 0; i < len(all); i++ {
		for _, x := range arcs[all[i]] {
			if x.sym < 0 {
				meet(x.to)
			}
		}
	}
	return all
}

// lengths tells of each pair how many symbols the shortest word has that leads to an end; -1: there is none.
func (r *rests) lengths() []int {
	far := make([]int, len(r.list))
	var level []int
	for n, ends := range r.ends() {
		far[n] = -1
		if ends {
			level = append(level, n)
		}
	}
	for length := 0; len(level) > 0; length++ {
		var next []int
		for _, n := range r.close(level, r.into) {
			if far[n] >= 0 {
				continue
			}
			far[n] = length
			for _, x := range r.into[n] {
				if x.sym >= 0 && far[x.to] < 0 {
					next = append(next, x.to)
				}
			}
		}
		level = next
	}
	return far
}

// nearer is the least symbol by which some pair comes nearer to an end, with so many symbols left then, and where it leads.
func (r *rests) nearer(at, far []int, left int) (int, []int) {
	least := -1
	var to []int
	for _, n := range at {
		for _, x := range r.arcs[n] {
			if x.sym < 0 || far[x.to] != left || least >= 0 && x.sym > least {
				continue
			}
			if x.sym != least {
				least, to = x.sym, nil
			}
			to = append(to, x.to)
		}
	}
	return least, to
}

// first is the first rest that has a path.
func (r *rests) first() ([]int, bool) {
	far := r.lengths()
	least := -1
	for _, n := range r.begin {
		if far[n] >= 0 && (least < 0 || far[n] < least) {
			least = far[n]
		}
	}
	if least < 0 {
		return nil, false
	}
	var word []int
	at := r.begin
	for left := least - 1; left >= 0; left-- {
		sym, to := r.nearer(r.close(at, r.arcs), far, left)
		word, at = append(word, sym), to
	}
	return word, true
}
