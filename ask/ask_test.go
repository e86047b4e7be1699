package ask

import (
	"slices"
	"testing"

	"stackyard/api"
	"stackyard/dfa"
	"stackyard/regex"
	"stackyard/samples"
	"stackyard/weight"
	"stackyard/wfa"
)

func lang(s string) api.Dfa {
	r, _, _ := regex.Parse(s)
	d, _ := dfa.Make(r, "a", "b")
	return d
}

var langs = []string{".*", "a*", "(a b)*", "!(a .*)", ". .", "#", "%", "b a* | a"}

// example is the chapter's.
func example() api.Auto {
	return api.Auto{Space: api.Space{Tag: api.Cost, Dim: 9}, States: 2, Symbols: 2, Final: []int{1}, Trans: []api.Trans{{Sym: 0, To: 1, W: api.Weight{Cost: 3}}, {From: 1, Sym: 1, To: 1, W: api.Weight{Cost: 1}}}}
}

func TestErrors(t *testing.T) {
	a := example()
	three := api.Dfa{Symbols: 3, Next: [][]int{{0, 0, 0}}, Accept: []bool{true}}
	for i, c := range []struct {
		a         api.Auto
		from, top int
		d         api.Dfa
		want      api.Errno
	}{{api.Auto{}, 9, 9, api.Dfa{}, api.ErrSpace}, {a, 9, 9, api.Dfa{}, api.ErrDfa}, {a, 9, 9, three, api.ErrArg}, {a, 2, 9, lang("a"), api.ErrState}, {a, -1, 9, lang("a"), api.ErrState}} {
		w, e1 := Stacks(c.a, false, c.from, c.top, c.d)
		l, e2 := Tops(c.a, false, c.from, c.d)
		x, ok, e3 := Word(c.a, c.from, c.top, c.d)
		in, y, e4 := Within(c.a, c.from, c.top, c.d)
		for j, e := range []api.Errno{e1, e2, e3, e4} {
			if e != c.want || !weight.Same(w, api.Weight{}) || l != nil || x != nil || ok || in || y != nil {
				t.Error(i, j, e)
			}
		}
	}
	for _, top := range []int{-1, 2} {
		_, e1 := Stacks(a, false, 0, top, lang("a"))
		_, _, e2 := Word(a, 0, top, lang("a"))
		_, _, e3 := Within(a, 0, top, lang("a"))
		if e1 != api.ErrSym || e2 != api.ErrSym || e3 != api.ErrSym {
			t.Error(e1, e2, e3)
		}
	}
}

func chain(n, symbols int) api.Dfa {
	d := api.Dfa{Symbols: symbols, Accept: make([]bool, n)}
	for range n {
		d.Next = append(d.Next, make([]int, symbols))
	}
	return d
}

func TestMany(t *testing.T) {
	ask := func(a api.Auto, d api.Dfa) [4]api.Errno {
		_, e1 := Stacks(a, false, 0, 0, d)
		_, e2 := Tops(a, false, 0, d)
		_, _, e3 := Word(a, 0, 0, d)
		_, _, e4 := Within(a, 0, 0, d)
		return [4]api.Errno{e1, e2, e3, e4}
	}
	many := [4]api.Errno{3, 3, 3, 3}
	b := api.Auto{Space: api.Space{Tag: api.Bool}, States: 1024, Symbols: 2}
	if ask(b, chain(2, 2)) != [4]api.Errno{} || ask(b, chain(3, 2)) != many {
		t.Error("states")
	}
	b.States, b.Trans = 1, make([]api.Trans, api.MaxTrans/4)
	if ask(b, chain(2, 2)) != [4]api.Errno{} || ask(b, chain(3, 2)) != many {
		t.Error("transitions")
	}
	b.Trans = nil
	if ask(b, chain(1022, 2)) != [4]api.Errno{} || ask(b, chain(1023, 2)) != [4]api.Errno{3, 3, 0, 0} {
		t.Error("automaton")
	}
	b.Symbols = 4096
	if ask(b, chain(14, 4096)) != [4]api.Errno{} || ask(b, chain(15, 4096)) != [4]api.Errno{3, 3, 0, 0} {
		t.Error("table")
	}
	b.Symbols = 0
	if l, e := Tops(b, false, 0, chain(1024, 0)); len(l) != 0 || e != 0 {
		t.Error(l, e)
	}
}

func TestP17_1(t *testing.T) {
	a := example()
	if w, e := Stacks(a, false, 0, 0, lang(".*")); w.Cost != 3 || w.Zero || e != 0 {
		t.Error(w, e)
	}
	if w, e := Stacks(a, true, 0, 0, lang(". .")); w.Cost != 5 || e != 0 {
		t.Error(w, e)
	}
	for i := range 120 {
		d := samples.New(i)
		s := samples.Spaces()[i%6]
		a := d.Auto(s, 3, 2, 7, i%3 > 0)
		l := lang(langs[i%len(langs)])
		for from := range 3 {
			back := from%2 == 0
			tops, e := Tops(a, back, from, l)
			if e != 0 || len(tops) != 2 {
				t.Fatal(e)
			}
			for top := range 2 {
				got, e := Stacks(a, back, from, top, l)
				if e != 0 || !weight.Same(got, tops[top]) {
					t.Fatal(i, e)
				}
				want, _ := weight.Zero(s)
				for _, w := range samples.Words(8, 2) {
					if _, ok, _ := dfa.Run(l, w...); !ok {
						continue
					}
					v, _ := wfa.Value(a, back, from, append([]int{top}, w...)...)
					want, _ = weight.Combine(s, want, v)
				}
				if !weight.Same(got, want) {
					t.Fatal(i, from, top, got, want)
				}
			}
		}
	}
}

// hasPath says whether there is an accepted path, whatever it is worth.
func hasPath(a api.Auto, from int, w []int) bool {
	b := api.Auto{Space: api.Space{Tag: api.Bool}, States: a.States, Symbols: a.Symbols, Final: a.Final}
	for _, x := range a.Trans {
		b.Trans = append(b.Trans, api.Trans{From: x.From, Sym: x.Sym, To: x.To})
	}
	v, _ := wfa.Value(b, false, from, w...)
	return !v.Zero
}

func TestP17_2(t *testing.T) {
	if w, ok, e := Word(example(), 0, 0, lang(". .")); !slices.Equal(w, []int{1, 1}) || !ok || e != 0 {
		t.Error(w, ok, e)
	}
	none := 0
	for i := range 120 {
		a := samples.New(i).Auto(samples.Spaces()[i%6], 4, 2, 8, i%3 > 0)
		l := lang(langs[i%len(langs)])
		for from := range 4 {
			var want []int
			found := false
			for _, w := range samples.Words(7, 2) {
				if _, ok, _ := dfa.Run(l, w...); !found && ok && hasPath(a, from, append([]int{1}, w...)) {
					want, found = w, true
				}
			}
			if !found {
				none++
			}
			if w, ok, e := Word(a, from, 1, l); e != 0 || ok != found || !slices.Equal(w, want) {
				t.Fatal(i, from, w, ok, want)
			}
		}
	}
	if none == 0 || none == 480 {
		t.Error(none)
	}
}

func TestP17_3(t *testing.T) {
	for i := range 120 {
		a := samples.New(i).Auto(samples.Spaces()[i%6], 4, 2, 8, i%3 > 0)
		l := lang(langs[i%len(langs)])
		for from := range 4 {
			var want []int
			found := false
			for _, w := range samples.Words(7, 2) {
				if _, ok, _ := dfa.Run(l, w...); !found && !ok && hasPath(a, from, append([]int{0}, w...)) {
					want, found = w, true
				}
			}
			if ok, w, e := Within(a, from, 0, l); e != 0 || ok == found || !slices.Equal(w, want) {
				t.Fatal(i, from, ok, w, want)
			}
		}
	}
}

func TestP17_4(t *testing.T) {
	for i := range 60 {
		s := samples.Spaces()[i%6]
		a := samples.New(i).Auto(s, 3, 2, 8, true)
		k, l := lang(langs[i%len(langs)]), lang(langs[(i/7)%len(langs)])
		both, _ := dfa.Either(k, l)
		x, _ := Stacks(a, i%2 == 0, 0, 1, k)
		y, _ := Stacks(a, i%2 == 0, 0, 1, l)
		z, _ := Stacks(a, i%2 == 0, 0, 1, both)
		if xy, _ := weight.Combine(s, x, y); !weight.Same(xy, z) {
			t.Fatal(i)
		}
		for _, w := range samples.Words(4, 2) {
			v, _ := wfa.Value(a, i%2 == 0, 0, append([]int{1}, w...)...)
			_, in, _ := dfa.Run(k, w...)
			if ok, _ := weight.Below(s, v, x); in && !ok {
				t.Fatal(i, w)
			}
		}
	}
}

func TestP17_5(t *testing.T) {
	for i := range 60 {
		a := samples.New(i).Auto(samples.Spaces()[0], 3, 2, 8, true)
		l := lang(langs[i%len(langs)])
		w, ok, _ := Word(a, 0, 0, l)
		if !ok {
			continue
		}
		if _, in, _ := dfa.Run(l, w...); !in || !hasPath(a, 0, append([]int{0}, w...)) {
			t.Fatal(i, w)
		}
	}
}

func TestP17_6(t *testing.T) {
	for i := range 60 {
		s := samples.Spaces()[i%6]
		a := samples.New(i).Auto(s, 3, 2, 5, true)
		zero, _ := weight.Zero(s)
		for top := range 2 {
			l := lang(langs[i%len(langs)])
			_, ok, _ := Word(a, 1, top, l)
			if v, _ := Stacks(a, true, 1, top, l); !ok && !weight.Same(v, zero) {
				t.Fatal(i)
			}
		}
	}
}
