package dfa

import (
	"slices"
	"strconv"
	"strings"
	"testing"

	"stackyard/api"
	"stackyard/regex"
)

func parse(t *testing.T, s string) api.Regex {
	t.Helper()
	r, _, e := regex.Parse(s)
	if e != 0 {
		t.Fatal(s, e)
	}
	return r
}

func build(t *testing.T, s string, names ...string) api.Dfa {
	t.Helper()
	d, e := Make(parse(t, s), names...)
	if e != 0 || Check(d) != 0 {
		t.Fatal(s, d, e)
	}
	return d
}

var texts = []string{"a", ".", "%", "#", "a b", "a | b", "a*", "!a", "(a b)*", "!(a | b)", "!(a b) a", "a (b | %)", "!(!a* b)", "(a | !(b .)*) b", "!(a* | !b) .", "((a | b) (b | %))* a", "!#", "!%", "(!.)*", "(a b | b a a)*", "(%| a) (% | a) b", "# a", "a #", "(a | #)*", "(a* b)* a", ".* a . .", ". . a .*"}

// words tells all words of at most n symbols.
func words(n, symbols int) [][]int {
	l := [][]int{{}}
	for i := 0; i < len(l); i++ {
		if len(l[i]) < n {
			for x := range symbols {
				l = append(l, append(slices.Clone(l[i]), x))
			}
		}
	}
	return l
}

// takes says by definition whether a word is taken.
func takes(d api.Dfa, w []int) bool {
	at := 0
	for _, x := range w {
		at = d.Next[at][x]
	}
	return d.Accept[at]
}

// random tells automata that are made by a rule without a pattern.
func random(n int) []api.Dfa {
	var l []api.Dfa
	x := uint32(2463534242)
	next := func(k int) int {
		x ^= x << 13
		x ^= x >> 17
		x ^= x << 5
		return int(x % uint32(k))
	}
	for range n {
		states, symbols := 1+next(7), 1+next(3)
		d := api.Dfa{Symbols: symbols}
		for range states {
			var row []int
			for range symbols {
				row = append(row, next(states))
			}
			d.Next = append(d.Next, row)
			d.Accept = append(d.Accept, next(3) == 0)
		}
		l = append(l, d)
	}
	return l
}

// classes is how many states the least automaton has, by definition: states that are met, told apart by all words.
func classes(d api.Dfa) int {
	met := map[int]int{}
	all := words(4, d.Symbols)
	for _, w := range words(6, d.Symbols) {
		at := 0
		for _, x := range w {
			at = d.Next[at][x]
		}
		met[at]++
	}
	kinds := map[string]int{}
	for s := range met {
		var b strings.Builder
		for _, w := range all {
			at := s
			for _, x := range w {
				at = d.Next[at][x]
			}
			b.WriteString(strconv.FormatBool(d.Accept[at])[:1])
		}
		kinds[b.String()]++
	}
	return len(kinds)
}

// ordered tells whether states are numbered as they are first met.
func ordered(d api.Dfa) bool {
	met := 1
	for s, row := range d.Next {
		if s >= met {
			return false
		}
		for _, to := range row {
			if to > met {
				return false
			}
			met = max(met, to+1)
		}
	}
	return met == len(d.Next)
}

func TestErrors(t *testing.T) {
	good := api.Dfa{Symbols: 1, Next: [][]int{{0}}, Accept: []bool{true}}
	other := api.Dfa{Symbols: 0, Next: [][]int{{}}, Accept: []bool{true}}
	big := api.Dfa{Symbols: 65, Accept: make([]bool, 1009)}
	for range 1009 {
		big.Next = append(big.Next, make([]int, 65))
	}
	for i, d := range []api.Dfa{{}, {Symbols: -1, Next: [][]int{{}}, Accept: []bool{true}}, {Symbols: api.MaxSymbols + 1, Next: [][]int{make([]int, api.MaxSymbols+1)}, Accept: []bool{true}}, {Next: [][]int{{}}}, {Symbols: 1, Next: [][]int{{}}, Accept: []bool{true}},
		{Symbols: 1, Next: [][]int{{1}}, Accept: []bool{true}}, {Symbols: 1, Next: [][]int{{-1}}, Accept: []bool{true}}, {Next: make([][]int, 1025), Accept: make([]bool, 1025)}, big} {
		_, _, e1 := Run(d, 99)
		_, e2 := Least(d)
		_, e3 := Not(d)
		_, e4 := Both(good, d)
		_, e5 := Either(d, good)
		_, _, e6 := First(d)
		_, _, e7 := Within(d, other)
		_, e8 := Count(d, -1)
		for j, e := range []api.Errno{Check(d), e1, e2, e3, e4, e5, e6, e7, e8} {
			if e != api.ErrDfa {
				t.Error(i, j, e)
			}
		}
	}
	if Check(api.Dfa{Next: make([][]int, 1024), Accept: make([]bool, 1024)}) != 0 || Check(api.Dfa{Symbols: 4096, Next: slices.Repeat([][]int{make([]int, 4096)}, 16), Accept: make([]bool, 16)}) != 0 {
		t.Error("at the limit")
	}
	if d, e := Both(good, other); e != api.ErrArg || d.Next != nil {
		t.Error(e)
	}
	if d, e := Either(good, other); e != api.ErrArg || d.Next != nil {
		t.Error(e)
	}
	if ok, w, e := Within(good, other); e != api.ErrArg || w != nil || ok {
		t.Error(e)
	}
}

func TestP9_1(t *testing.T) {
	d := api.Dfa{Symbols: 1, Next: [][]int{{1}, {2}, {1}}, Accept: []bool{true, false, true}}
	if l, e := Least(d); e != 0 || !Same(l, api.Dfa{Symbols: 1, Next: [][]int{{1}, {0}}, Accept: []bool{true, false}}) {
		t.Error(l, e)
	}
	if s, ok, e := Run(d, 0, 0, 0, 0); s != 2 || !ok || e != 0 {
		t.Error(s, ok, e)
	}
	for _, x := range []int{-1, 1} {
		if s, ok, e := Run(d, 0, x); s != 0 || ok || e != api.ErrRange {
			t.Error(s, ok, e)
		}
	}
	for _, d := range random(300) {
		l, e := Least(d)
		n, e2 := Not(d)
		if e != 0 || e2 != 0 || Check(l) != 0 || Check(n) != 0 || len(l.Next) != classes(d) || !ordered(l) || !ordered(n) || len(n.Next) != len(l.Next) {
			t.Fatal(d, l, n)
		}
		for _, w := range words(5, d.Symbols) {
			if takes(l, w) != takes(d, w) || takes(n, w) == takes(d, w) {
				t.Fatal(d, l, n, w)
			}
		}
	}
}

// cycle takes words of one symbol whose length is a multiple of n.
func cycle(n int) api.Dfa {
	d := api.Dfa{Symbols: 1, Accept: make([]bool, n)}
	for i := range n {
		d.Next = append(d.Next, []int{(i + 1) % n})
	}
	d.Accept[0] = true
	return d
}

func TestP9_2(t *testing.T) {
	l := random(120)
	for i, a := range l {
		for _, b := range l[max(0, i-15) : i+1] {
			if a.Symbols != b.Symbols {
				continue
			}
			both, e := Both(a, b)
			either, e2 := Either(a, b)
			within, w, e3 := Within(a, b)
			if e+e2+e3 != 0 || !ordered(both) || !ordered(either) || len(both.Next) != classes(both) && len(both.Next) < 8 {
				t.Fatal(a, b, both, either)
			}
			first := true
			for _, x := range words(5, a.Symbols) {
				p, q := takes(a, x), takes(b, x)
				if takes(both, x) != (p && q) || takes(either, x) != (p || q) {
					t.Fatal(a, b, x)
				}
				if p && !q && first {
					first = false
					if within || !slices.Equal(w, x) {
						t.Fatal(a, b, x, w)
					}
				}
			}
			if first && !within && len(w) < 6 || within && w != nil {
				t.Fatal(a, b, w)
			}
		}
	}
	if d, e := Both(cycle(31), cycle(33)); len(d.Next) != 1023 || e != 0 {
		t.Error(len(d.Next), e)
	}
	if d, e := Either(cycle(32), cycle(33)); d.Next != nil || e != api.ErrMany {
		t.Error(len(d.Next), e)
	}
	if d, e := Both(cycle(1021), cycle(1019)); d.Next != nil || e != api.ErrMany {
		t.Error(len(d.Next), e)
	}
	odd := cycle(1000)
	for i := range odd.Accept {
		odd.Accept[i] = i%2 == 1
	}
	if d, e := Both(odd, cycle(998)); len(d.Next) != 1 || e != 0 {
		t.Error(len(d.Next), e)
	}
	if ok, w, e := Within(cycle(1021), cycle(1019)); ok || len(w) != 1021 || e != 0 {
		t.Error(ok, len(w), e)
	}
}

// ending takes words that end in a symbol (of two) and in which that stands a multiple of n times.
func ending(sym, n int) api.Dfa {
	d := api.Dfa{Symbols: 2}
	for s := range 2 * n {
		row := []int{s / 2 * 2, s / 2 * 2}
		row[sym] = (s/2*2+2)%(2*n) + 1
		d.Next = append(d.Next, row)
		d.Accept = append(d.Accept, s == 1)
	}
	return d
}

// TestManyPairs: very many pairs, of which a small automaton is made.
func TestManyPairs(t *testing.T) {
	a, b := ending(0, 64), ending(1, 65)
	if d, e := Both(a, b); len(d.Next) != 1 || e != 0 {
		t.Error(len(d.Next), e)
	}
	if ok, w, e := Within(a, b); ok || len(w) != 64 || e != 0 {
		t.Error(ok, len(w), e)
	}
	if d, e := Either(a, b); d.Next != nil || e != api.ErrMany {
		t.Error(len(d.Next), e)
	}
}

// TestByTests: sets that are told apart by words that accept are as many as the least automaton has states.
func TestByTests(t *testing.T) {
	m, _ := newMaker([]string{"a", "b"}, []string{"a", "b"})
	for i, s := range texts {
		for _, x := range texts[:i] {
			one, _ := m.of(parse(t, s))
			other, _ := m.of(parse(t, x))
			for _, op := range []api.RegexOp{api.RSeq, api.RAlt} {
				mix := newMixed(op, []table{one, other, one})
				back := mix.explore(mix.accept, 1000, set.key, mix.before)
				by := mix.explore(mix.start, 1000, func(s set) string { return told(s, back.list) }, mix.step)
				want, ok := mix.table(mix.explore(mix.start, 1000, set.key, mix.step)).least(1000)
				if !back.all || !by.all || !ok || !Same(mix.table(by).dfa(), want.dfa()) {
					t.Fatal(s, x, op)
				}
			}
		}
	}
}

func TestP9_3(t *testing.T) {
	for _, d := range random(200) {
		counts := make([]int64, 6)
		var want []int
		found := false
		for _, w := range words(5, d.Symbols) {
			if takes(d, w) {
				counts[len(w)]++
				if !found {
					want, found = w, true
				}
			}
		}
		if w, ok, e := First(d); e != 0 || found && (!ok || !slices.Equal(w, want)) || !found && ok && len(w) < 6 || !ok && w != nil {
			t.Fatal(d, w, ok, want)
		}
		for n, want := range counts {
			if got, e := Count(d, n); got != want || e != 0 {
				t.Fatal(d, n, got, want)
			}
		}
	}
	all := api.Dfa{Symbols: 2, Next: [][]int{{0, 0}}, Accept: []bool{true}}
	for n, want := range map[int]int64{0: 1, 39: 1 << 39, 40: 1 << 40, 41: 1 << 40, 10000: 1 << 40} {
		if got, e := Count(all, n); got != want || e != 0 {
			t.Error(n, got, e)
		}
	}
	for _, n := range []int{-1, 10001} {
		if got, e := Count(all, n); got != 0 || e != api.ErrRange {
			t.Error(n, got, e)
		}
	}
}

func TestP9_4(t *testing.T) {
	names := []string{"b", "x", "a"}
	for _, s := range texts {
		r := parse(t, s)
		d := build(t, s, names...)
		if l, _ := Least(d); !Same(l, d) || !ordered(d) || d.Symbols != 3 {
			t.Error(s, d)
		}
		for _, w := range words(5, 3) {
			var word []string
			for _, x := range w {
				word = append(word, names[x])
			}
			if ok, _ := regex.Match(r, word...); ok != takes(d, w) {
				t.Error(s, w, ok)
			}
		}
	}
	if d := build(t, ". | %"); !Same(d, api.Dfa{Next: [][]int{{}}, Accept: []bool{true}}) {
		t.Error(d)
	}
	var many []string
	for i := range api.MaxSymbols + 1 {
		many = append(many, "n"+strconv.Itoa(i))
	}
	if d := build(t, "n7 . !n9", many[:api.MaxSymbols]...); len(d.Next) != 6 {
		t.Error(len(d.Next))
	}
	a := parse(t, "a")
	for _, c := range []struct {
		r     api.Regex
		names []string
		want  api.Errno
	}{{api.Regex{}, []string{"9"}, api.ErrRegex}, {a, many, api.ErrNames}, {a, []string{"b", "b"}, api.ErrNames}, {a, []string{"b", "9"}, api.ErrNames}, {a, []string{"b"}, api.ErrName}, {a, nil, api.ErrName},
		{parse(t, "a . . . . . . . . . . . . . ."), append([]string{"a"}, many[:4095]...), api.ErrMany}} {
		if d, e := Make(c.r, c.names...); e != c.want || d.Next != nil {
			t.Error(c.r, e, c.want)
		}
	}
	build(t, "a . . . . . . . . . . . . .", append([]string{"a"}, many[:4095]...)...)
	if Same(api.Dfa{}, api.Dfa{Symbols: 1}) || Same(api.Dfa{Next: [][]int{{1}}}, api.Dfa{Next: [][]int{{2}}}) || Same(api.Dfa{Accept: []bool{true}}, api.Dfa{Accept: []bool{false}}) || !Same(api.Dfa{Next: [][]int{nil}}, api.Dfa{Next: [][]int{{}}, Accept: []bool{}}) {
		t.Error("Same")
	}
}

// TestMany: where the least automaton is small, or too great, but subsets are very many.
func TestMany(t *testing.T) {
	dots := func(n int) string { return strings.Repeat(" .", n) }
	if d := build(t, ".* a"+dots(9), "a", "b"); len(d.Next) != 1024 {
		t.Error(len(d.Next))
	}
	for _, s := range []string{".* a" + dots(10), ".* a" + dots(400), "!(.* a" + dots(60) + ") | .*", "(.* a" + dots(8) + " | .* b" + dots(8) + " c" + dots(7) + ")*"} {
		if d, e := Make(parse(t, s), "a", "b", "c"); e != api.ErrMany || d.Next != nil {
			t.Error(s, len(d.Next), e)
		}
	}
	if d := build(t, "(a | b) (a | b) (.* a"+dots(8)+" | .* b"+dots(8)+") (a | b)", "a", "b"); len(d.Next) < 10 {
		t.Error(len(d.Next))
	}
	if d := build(t, dots(1)[1:]+dots(300)+" a .*", "a", "b"); len(d.Next) != 304 {
		t.Error(len(d.Next))
	}
	if d := build(t, "(.* a"+dots(8)+") .* a"+dots(0)+" .*", "a", "b"); len(d.Next) > 1024 {
		t.Error(len(d.Next))
	}
}

func TestP9_5(t *testing.T) {
	l := random(150)
	for i, a := range l {
		not, _ := Not(a)
		again, _ := Not(not)
		least, _ := Least(a)
		if !Same(again, least) {
			t.Error(a)
		}
		for _, b := range l[:i] {
			if a.Symbols != b.Symbols {
				continue
			}
			other, _ := Least(b)
			x, _, _ := Within(a, b)
			y, _, _ := Within(b, a)
			if Same(least, other) != (x && y) {
				t.Error(a, b)
			}
		}
	}
}

func TestP9_6(t *testing.T) {
	for _, s := range texts {
		for _, x := range texts {
			a, b := build(t, s, "a", "b"), build(t, x, "a", "b")
			both, _ := Both(a, b)
			either, _ := Either(a, b)
			if want := build(t, "("+s+") | "+x, "a", "b"); !Same(either, want) {
				t.Error(s, x)
			}
			if want := build(t, "!(!("+s+") | !("+x+"))", "a", "b"); !Same(both, want) {
				t.Error(s, x)
			}
		}
	}
}

func TestP9_7(t *testing.T) {
	for _, s := range texts {
		for _, x := range texts {
			a, b := build(t, s, "a", "b"), build(t, x, "a", "b")
			both, _ := Both(a, b)
			either, _ := Either(a, b)
			for _, p := range [][2]api.Dfa{{both, a}, {both, b}, {a, either}, {b, either}} {
				if ok, w, e := Within(p[0], p[1]); !ok || w != nil || e != 0 {
					t.Error(s, x)
				}
			}
		}
	}
}
