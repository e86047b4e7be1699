package dfa

import (
	"math/bits"

	"stackyard/api"
)

// set is a set of states of a mixed automaton.
type set []uint64

func (s set) put(i int32) { s[i/64] |= 1 << uint(i%64) }

func (s set) has(i int32) bool { return s[i/64]>>uint(i%64)&1 == 1 }

func (s set) meets(o set) bool {
	for i, w := range s {
		if w&o[i] != 0 {
			return true
		}
	}
	return false
}

// key is a set as a text.
func (s set) key() string {
	b := make([]byte, 0, 8*len(s))
	for _, w := range s {
		for i := range 8 {
			b = append(b, byte(w>>uint(8*i)))
		}
	}
	return string(b)
}

// mixed is an automaton of others: by a symbol each state goes to at most one (below 0: none), and enters with it those of its row of enter.
type mixed struct {
	symbols int
	out     []int32
	enter   [][]int32
	start   set
	accept  set
}

func (m *mixed) states() int { return len(m.enter) }

func (m *mixed) none() set { return make(set, (m.states()+63)/64) }

// live tells which states of a table some accepting one follows.
func live(t table) []bool {
	alive := make([]bool, len(t.accept))
	for grown := true; grown; {
		grown = false
		for s := len(alive) - 1; s >= 0; s-- {
			if alive[s] {
				continue
			}
			alive[s] = t.accept[s]
			for _, to := range t.row(s) {
				alive[s] = alive[s] || alive[to]
			}
			grown = grown || alive[s]
		}
	}
	return alive
}

// lay puts the states of a table behind those that are there, and tells their numbers; below 0: what accepts nothing more.
func (m *mixed) lay(t table) []int32 {
	number := make([]int32, len(t.accept))
	n := int32(m.states())
	for s, alive := range live(t) {
		number[s] = -1
		if alive {
			number[s] = n
			n++
		}
	}
	for s, at := range number {
		if at < 0 {
			continue
		}
		for _, to := range t.row(s) {
			m.out = append(m.out, number[to])
		}
		m.enter = append(m.enter, []int32{at})
	}
	return number
}

// newMixed is the automaton of all words of rows, alternatives or repetitions of tables.
func newMixed(op api.RegexOp, kids []table) *mixed {
	m := &mixed{symbols: kids[0].symbols}
	var begin, last []int32
	for i := len(kids) - 1; i >= 0; i-- {
		t := kids[i]
		number := m.lay(t)
		var ends []int32
		for s, accepts := range t.accept {
			if accepts {
				ends = append(ends, number[s])
			}
		}
		if op == api.RSeq && i < len(kids)-1 {
			m.follow(ends, begin)
			begin = nil
		} else {
			last = append(last, ends...)
		}
		if number[0] >= 0 {
			begin = append(begin, m.enter[number[0]]...)
		}
	}
	if op == api.RStar {
		begin, last = m.repeat(begin, last)
	}
	m.start, m.accept = m.none(), m.none()
	for _, s := range begin {
		m.start.put(s)
	}
	for _, s := range last {
		m.accept.put(s)
	}
	return m
}

// follow lets all of some states enter others, too.
func (m *mixed) follow(ends, begin []int32) {
	for _, s := range ends {
		m.enter[s] = append(m.enter[s], begin...)
	}
}

// repeat lets the end be the beginning again, and puts in a state for no repetition.
func (m *mixed) repeat(begin, last []int32) ([]int32, []int32) {
	for _, s := range last {
		if len(begin) > 0 && s != begin[0] {
			m.enter[s] = append(m.enter[s], begin[0])
		}
	}
	nothing := int32(m.states())
	m.enter = append(m.enter, []int32{nothing})
	for range m.symbols {
		m.out = append(m.out, -1)
	}
	return append(begin, nothing), append(last, nothing)
}

// step is what comes of a set by a symbol.
func (m *mixed) step(s set, sym int) set {
	to := m.none()
	for i, w := range s {
		for ; w != 0; w &= w - 1 {
			at := 64*i + bits.TrailingZeros64(w)
			if next := m.out[at*m.symbols+sym]; next >= 0 {
				for _, e := range m.enter[next] {
					to.put(e)
				}
			}
		}
	}
	return to
}

// before is all states of which a symbol leads into a set.
func (m *mixed) before(s set, sym int) set {
	from := m.none()
	for at := range m.states() {
		if next := m.out[at*m.symbols+sym]; next >= 0 {
			for _, e := range m.enter[next] {
				if s.has(e) {
					from.put(int32(at))
					break
				}
			}
		}
	}
	return from
}

// explored is what was met from a set on: the sets; whether they are all; where each leads, as far as it was gone through.
type explored struct {
	list []set
	all  bool
	next []int32
}

// explore goes from a set on by steps of symbols, to no more sets than a limit; sets with one key are one.
func (m *mixed) explore(from set, limit int, key func(set) string, step func(set, int) set) explored {
	numbers := map[string]int32{key(from): 0}
	x := explored{list: []set{from}}
	for i := 0; i < len(x.list); i++ {
		for sym := range m.symbols {
			to := step(x.list[i], sym)
			k := key(to)
			n, known := numbers[k]
			if !known {
				if len(x.list) == limit {
					return x
				}
				n = int32(len(x.list))
				numbers[k] = n
				x.list = append(x.list, to)
			}
			x.next = append(x.next, n)
		}
	}
	x.all = true
	return x
}

// table is that of all sets that were met.
func (m *mixed) table(x explored) table {
	t := table{symbols: m.symbols, next: x.next}
	for _, s := range x.list {
		t.accept = append(t.accept, s.meets(m.accept))
	}
	return t
}

// told is by which tests a set accepts, as a text: sets of which all tests tell the same accept the same words.
func told(s set, tests []set) string {
	by := make(set, (len(tests)+63)/64)
	for i, t := range tests {
		if s.meets(t) {
			by.put(int32(i))
		}
	}
	return by.key()
}

// least is the least table of all words; false: it has more states than most. Sets may be many more than the least table's states: then they are told apart by the sets of states from which words accept.
func (m *mixed) least(most int) (table, bool) {
	for limit := 4 * api.MaxDfa; ; limit *= 4 {
		forth := m.explore(m.start, limit, set.key, m.step)
		if forth.all {
			return m.table(forth).least(most)
		}
		back := m.explore(m.accept, limit, set.key, m.before)
		byTests := func(s set) string { return told(s, back.list) }
		if back.all {
			x := m.explore(m.start, most, byTests, m.step)
			return m.table(x), x.all
		}
		apart := map[string]struct{}{}
		for _, s := range forth.list {
			apart[byTests(s)] = struct{}{}
			if len(apart) > most {
				return table{}, false
			}
		}
	}
}
