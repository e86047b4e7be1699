package nfa

import (
	"slices"
	"strconv"
	"strings"
	"testing"

	"stackyard/api"
	"stackyard/regex"
)

var texts = []string{"a", ".", "%", "#", "a b", "a | b", "a*", "!a", "(a b)*", "!(a | b)", "!(a b) c", "a (b | %)", "!(!a* b)", "(a | !(b .)*) b", "c", "!(a* | !b) .", "((a | b) (b | %))* a", "!#", "!%", "(!.)*"}

func parse(t *testing.T, s string) api.Regex {
	t.Helper()
	r, _, e := regex.Parse(s)
	if e != 0 {
		t.Fatal(s, e)
	}
	return r
}

func build(t *testing.T, s string, names ...string) api.Nfa {
	t.Helper()
	a, e := Build(parse(t, s), names...)
	if e != 0 || Check(a) != 0 {
		t.Fatal(s, a, e)
	}
	return a
}

// words tells all words of at most n symbols.
func words(n, symbols int) [][]int {
	l := [][]int{{}}
	for i := 0; i < len(l); i++ {
		if len(l[i]) < n {
			for x := range symbols {
				l = append(l, append(slices.Clone(l[i]), x))
			}
		}
	}
	return l
}

func same(a, b api.Nfa) bool {
	return a.States == b.States && a.Symbols == b.Symbols && a.Start == b.Start && a.End == b.End && slices.Equal(a.Arcs, b.Arcs)
}

func TestP8_1(t *testing.T) {
	arcs := func(l ...[3]int) []api.Arc {
		var out []api.Arc
		for _, x := range l {
			out = append(out, api.Arc{From: x[0], Sym: x[1], To: x[2]})
		}
		return out
	}
	for s, want := range map[string]api.Nfa{
		"b":     {States: 2, Arcs: arcs([3]int{0, 1, 1})},
		"c":     {States: 2},
		".":     {States: 2, Arcs: arcs([3]int{0, -2, 1})},
		"%":     {States: 2, Arcs: arcs([3]int{0, -1, 1})},
		"#":     {States: 2},
		"a b a": {States: 4, Arcs: arcs([3]int{0, 0, 2}, [3]int{2, 1, 3}, [3]int{3, 0, 1})},
		"a* b":  {States: 5, Arcs: arcs([3]int{0, -1, 3}, [3]int{3, 0, 4}, [3]int{4, -1, 3}, [3]int{3, -1, 2}, [3]int{2, 1, 1})},
		"a | b": {States: 6, Arcs: arcs([3]int{0, -1, 2}, [3]int{2, 0, 3}, [3]int{3, -1, 1}, [3]int{0, -1, 4}, [3]int{4, 1, 5}, [3]int{5, -1, 1})},
		"!a": {States: 5, Arcs: arcs([3]int{0, -1, 2}, [3]int{2, 0, 3}, [3]int{2, 1, 4}, [3]int{3, 0, 4}, [3]int{3, 1, 4}, [3]int{4, 0, 4}, [3]int{4, 1, 4},
			[3]int{2, -1, 1}, [3]int{4, -1, 1})},
	} {
		want.Symbols, want.End = 2, 1
		if a := build(t, s, "a", "b"); !same(a, want) {
			t.Errorf("%q: %v", s, a)
		}
	}
	a := parse(t, "a")
	many := make([]string, api.MaxSymbols+1)
	for i := range many {
		many[i] = "n" + strconv.Itoa(i)
	}
	if _, e := Build(a, many[:api.MaxSymbols]...); e != 0 {
		t.Error(e)
	}
	for _, names := range [][]string{many, {"a", "a"}, {"a", ""}, {"9"}, {strings.Repeat("a", 65)}} {
		if n, e := Build(a, names...); e != api.ErrNames || !same(n, api.Nfa{}) {
			t.Error(e)
		}
	}
	if n, e := Build(api.Regex{}, "9"); e != api.ErrRegex || !same(n, api.Nfa{}) {
		t.Error(e)
	}
	for _, s := range []string{"!(.* a . . . . . . . . . .)", "!(.* a . . . . . . . . .) !(.* a . . . . . . . . .) !(.* a . . . . . . . . .) !(.* a . . . . . . . . .)"} {
		if n, e := Build(parse(t, s), "a", "b"); e != api.ErrMany || !same(n, api.Nfa{}) {
			t.Error(s, e)
		}
	}
	build(t, "!(.* a . . . . . . . .)", "a", "b")
}

func bad() []api.Nfa {
	return []api.Nfa{{}, {States: api.MaxStates + 1}, {States: 1, Symbols: -1}, {States: 1, Symbols: api.MaxSymbols + 1}, {States: 1, Start: 1}, {States: 1, End: -1}, {States: 2, Start: -1},
		{States: 1, Symbols: 1, Arcs: []api.Arc{{From: 1}}}, {States: 1, Symbols: 1, Arcs: []api.Arc{{To: -1}}}, {States: 1, Symbols: 1, Arcs: []api.Arc{{Sym: 1}}}, {States: 1, Symbols: 1, Arcs: []api.Arc{{Sym: -3}}}}
}

func TestErrors(t *testing.T) {
	l := bad()
	l = append(l, api.Nfa{Arcs: make([]api.Arc, api.MaxTrans+1)})
	for i, a := range l {
		want := api.ErrNfa
		if i == len(l)-1 {
			want = api.ErrMany
		}
		if Check(a) != want {
			t.Error(i, Check(a))
		}
		if _, e := Close(a, -1); e != want {
			t.Error(i, e)
		}
		if _, e := Step(a, -1, -1); e != want {
			t.Error(i, e)
		}
		if ok, e := Run(a, -1); e != want || ok {
			t.Error(i, e)
		}
		if _, e := Turn(a); e != want {
			t.Error(i, e)
		}
		if _, e := Dfa(a); e != want {
			t.Error(i, e)
		}
		if w, ok, e := Least(a); e != want || ok || w != nil {
			t.Error(i, e)
		}
	}
	if Check(api.Nfa{States: api.MaxStates, Symbols: api.MaxSymbols, Arcs: make([]api.Arc, api.MaxTrans)}) != 0 {
		t.Error("at the limit")
	}
	a := build(t, "a b", "a", "b")
	for _, s := range []int{-1, a.States} {
		if l, e := Close(a, 0, s); l != nil || e != api.ErrState {
			t.Error(l, e)
		}
		if l, e := Step(a, 9, 0, s); l != nil || e != api.ErrState {
			t.Error(l, e)
		}
	}
	for _, s := range []int{-1, -2, 2} {
		if l, e := Step(a, s, 0); l != nil || e != api.ErrSym {
			t.Error(l, e)
		}
		if ok, e := Run(a, 0, s); ok || e != api.ErrSym {
			t.Error(ok, e)
		}
	}
}

func TestP8_2(t *testing.T) {
	a := build(t, "a* b", "a", "b")
	if l, e := Close(a, 0, 0); !slices.Equal(l, []int{0, 2, 3}) || e != 0 {
		t.Error(l, e)
	}
	if l, e := Close(a); len(l) != 0 || e != 0 {
		t.Error(l, e)
	}
	if l, e := Step(a, 0, 0); !slices.Equal(l, []int{2, 3, 4}) || e != 0 {
		t.Error(l, e)
	}
	any2 := api.Nfa{States: 3, Symbols: 2, End: 2, Arcs: []api.Arc{{From: 0, Sym: -1, To: 1}, {From: 1, Sym: -2, To: 2}, {From: 2, Sym: -1, To: 0}}}
	if l, e := Step(any2, 1, 0); !slices.Equal(l, []int{0, 1, 2}) || e != 0 {
		t.Error(l, e)
	}
}

func matches(r api.Regex, w []int, names []string) bool {
	var word []string
	for _, x := range w {
		word = append(word, names[x])
	}
	ok, _ := regex.Match(r, word...)
	return ok
}

func TestP8_3(t *testing.T) {
	a := build(t, "a (b | %)", "a", "b")
	for _, w := range words(3, 2) {
		want := len(w) > 0 && w[0] == 0 && (len(w) == 1 || len(w) == 2 && w[1] == 1)
		if ok, e := Run(a, w...); ok != want || e != 0 {
			t.Error(w, ok, e)
		}
	}
}

func TestP8_4(t *testing.T) {
	a := build(t, "a* b", "a", "b")
	b, e := Turn(a)
	if e != 0 || b.Start != a.End || b.End != a.Start || len(b.Arcs) != len(a.Arcs) {
		t.Fatal(b, e)
	}
	for i, x := range b.Arcs {
		if y := a.Arcs[i]; x != (api.Arc{From: y.To, Sym: y.Sym, To: y.From}) {
			t.Error(x, y)
		}
	}
}

func TestP8_5(t *testing.T) {
	for s, want := range map[string][]int{"a (b | %)": {0}, "b a | b b | a b b": {1, 0}, ". b": {0, 1}, "!%": {0}, "%": {}, "(b | a a) (b | a)": {1, 0}, "!(a | b | %) b": {0, 0, 1}} {
		if w, ok, e := Least(build(t, s, "a", "b")); !slices.Equal(w, want) || !ok || e != 0 {
			t.Error(s, w, ok, e)
		}
	}
	for _, s := range []string{"c", "#", "a #"} {
		if w, ok, e := Least(build(t, s, "a", "b")); w != nil || ok || e != 0 {
			t.Error(s, w, ok, e)
		}
	}
	if w, ok, e := Least(build(t, ".")); w != nil || ok || e != 0 {
		t.Error("no symbols", w, ok, e)
	}
}

func TestP8_6(t *testing.T) {
	for _, s := range texts {
		a := build(t, s, "a", "b")
		b, _ := Turn(a)
		if again, _ := Turn(b); !same(again, a) {
			t.Error(s)
		}
		for _, w := range words(4, 2) {
			x, _ := Run(a, w...)
			slices.Reverse(w)
			if y, _ := Run(b, w...); x != y {
				t.Error(s, w)
			}
		}
	}
}

func TestP8_7(t *testing.T) {
	for _, s := range texts {
		a := build(t, s, "a", "b")
		for _, w := range words(4, 2) {
			at, _ := Close(a, a.Start)
			for _, x := range w {
				at, _ = Step(a, x, at...)
			}
			if ok, _ := Run(a, w...); ok != slices.Contains(at, a.End) {
				t.Error(s, w)
			}
		}
	}
}

func TestP8_8(t *testing.T) {
	for _, s := range texts {
		a := build(t, s, "a", "b")
		var want []int
		found := false
		for _, w := range words(5, 2) {
			if ok, _ := Run(a, w...); ok && !found {
				want, found = w, true
			}
		}
		if w, ok, _ := Least(a); !slices.Equal(w, want) || ok != found {
			t.Error(s, w, ok, want)
		}
	}
}

func TestP8_9(t *testing.T) {
	a := build(t, "a b", "a", "b")
	d, e := Dfa(a)
	want := [][]int{{1, 2}, {2, 3}, {2, 2}, {2, 2}}
	if e != 0 || d.Symbols != 2 || !slices.EqualFunc(d.Next, want, slices.Equal) || !slices.Equal(d.Accept, []bool{false, false, false, true}) {
		t.Error(d, e)
	}
	tail := api.Nfa{States: 11, Symbols: 2, End: 10, Arcs: []api.Arc{{Sym: -2}, {Sym: 0, To: 1}}}
	for i := range 9 {
		tail.Arcs = append(tail.Arcs, api.Arc{From: i + 1, Sym: -2, To: i + 2})
	}
	if d, e := Dfa(tail); len(d.Next) != 1024 || e != 0 {
		t.Error(len(d.Next), e)
	}
	if d, e := Dfa(build(t, ".* a . . . . . . . . . .", "a", "b")); d.Next != nil || e != api.ErrMany {
		t.Error(len(d.Next), e)
	}
	wide := api.Nfa{States: 2, Symbols: api.MaxSymbols, End: 1, Arcs: []api.Arc{{Sym: 5, To: 1}}}
	if d, e := Dfa(wide); len(d.Next) != 3 || e != 0 {
		t.Error(len(d.Next), e)
	}
	long := api.Nfa{States: 20, Symbols: api.MaxSymbols, End: 15}
	for i := range 15 {
		long.Arcs = append(long.Arcs, api.Arc{From: i, Sym: -2, To: i + 1})
	}
	if d, e := Dfa(long); d.Next != nil || e != api.ErrMany {
		t.Error(len(d.Next), e)
	}
	long.Arcs[14].To = 0
	if d, e := Dfa(long); len(d.Next) != 15 || e != 0 {
		t.Error(len(d.Next), e)
	}
	if d, e := Dfa(api.Nfa{States: 1}); len(d.Next) != 1 || !d.Accept[0] || e != 0 {
		t.Error(d, e)
	}
}

func TestP8_10(t *testing.T) {
	names := []string{"a", "b", "d"}
	for _, s := range texts {
		r := parse(t, s)
		a := build(t, s, names...)
		for _, w := range words(4, 3) {
			if ok, _ := Run(a, w...); ok != matches(r, w, names) {
				t.Error(s, w, ok)
			}
		}
	}
}

func TestP8_11(t *testing.T) {
	for _, s := range texts {
		a := build(t, s, "a", "b")
		d, _ := Dfa(a)
		for _, w := range words(5, 2) {
			at := 0
			for _, x := range w {
				at = d.Next[at][x]
			}
			if ok, _ := Run(a, w...); ok != d.Accept[at] {
				t.Error(s, w, ok)
			}
		}
	}
}
