package frames

import "stackyard/api"

// What is explored at most.
const (
	maxMoves  = 100
	maxStates = 20000
	maxDraws  = 8
)

// key is a state by which a map finds it: its stack as a text.
type key struct {
	node  int
	marks uint64
	env   [api.MaxBits]int64
	stack string
}

func keyOf(s api.State) key {
	k := key{node: s.Node, marks: s.Marks}
	copy(k.env[:], s.Env)
	b := make([]byte, 0, 2*len(s.Stack))
	for _, site := range s.Stack {
		b = append(b, byte(site), byte(site>>8))
	}
	k.stack = string(b)
	return k
}

// moves are all from a state, in order, with some draws.
func (r *runner) moves(s api.State, draws []int64) []api.Move {
	var l []api.Move
	for _, i := range r.out[s.Node] {
		if r.Steps[i].Kind != api.SAny {
			l = append(l, api.Move{Step: i})
			continue
		}
		for _, d := range draws {
			l = append(l, api.Move{Step: i, Draw: d})
		}
	}
	if r.over(s) {
		l = append(l, api.Move{Step: returns})
	}
	return l
}

// Explore: all states that are reached by at most so many moves.
func Explore(g api.Graph, s api.State, draws []int64, n, most int) ([]api.State, api.Errno) {
	r, e := checked(g, s)
	if e != api.OK {
		return nil, e
	}
	if n < 0 || n > maxMoves || most < 1 || most > maxStates || len(draws) > maxDraws {
		return nil, api.ErrArg
	}
	all := []api.State{copied(s)}
	met := map[key]struct{}{keyOf(s): {}}
	from := 0
	for range n {
		level := all[from:]
		from = len(all)
		for _, x := range level {
			for _, m := range r.moves(x, draws) {
				next, e := r.moved(x, m)
				if e != api.OK {
					return nil, e
				}
				k := keyOf(next)
				if _, known := met[k]; known {
					continue
				}
				if len(all) == most {
					return nil, api.ErrMany
				}
				met[k] = struct{}{}
				all = append(all, next)
			}
		}
	}
	return all, api.OK
}
