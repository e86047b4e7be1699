package wfa

import (
	"slices"
	"testing"

	"stackyard/api"
	"stackyard/dfa"
	"stackyard/regex"
	"stackyard/samples"
	"stackyard/weight"
)

// paths combines by definition the values of all accepted paths with a word of at most so many transitions; word nil and total: of all words.
func paths(a api.Auto, back bool, from int, w []int, total bool, most int) api.Weight {
	sum, _ := weight.Zero(a.Space)
	one, _ := weight.One(a.Space)
	type item struct {
		at, left int
		w        string
	}
	level := map[item]api.Weight{}
	start, _ := weight.Text(a.Space, one)
	level[item{from, len(w), start}] = one
	for range most + 1 {
		next := map[item]api.Weight{}
		for it, v := range level {
			if slices.Contains(a.Final, it.at) && (total || it.left == 0) {
				sum, _ = weight.Combine(a.Space, sum, v)
			}
			for _, t := range a.Trans {
				left := it.left
				if t.From != it.at {
					continue
				}
				if !total && t.Sym >= 0 {
					if left == 0 || w[len(w)-left] != t.Sym {
						continue
					}
					left--
				}
				x, _ := weight.Extend(a.Space, v, t.W)
				if back {
					x, _ = weight.Extend(a.Space, t.W, v)
				}
				k, _ := weight.Text(a.Space, x)
				next[item{t.To, left, k}] = x
			}
		}
		level = next
	}
	return sum
}

func cost9() api.Auto {
	return api.Auto{Space: api.Space{Tag: api.Cost, Dim: 9}, States: 2, Symbols: 1, Final: []int{1}, Trans: []api.Trans{{From: 0, Sym: 0, To: 1, W: api.Weight{Cost: 3}}, {From: 0, Sym: -1, To: 0, W: api.Weight{Cost: 1}}, {From: 0, Sym: 0, To: 1, W: api.Weight{Cost: 5}}}}
}

func TestErrors(t *testing.T) {
	b := api.Space{Tag: api.Bool}
	zero := api.Weight{Cost: 1}
	for _, c := range []struct {
		a    api.Auto
		want api.Errno
	}{
		{api.Auto{States: -1, Trans: make([]api.Trans, api.MaxTrans+1)}, api.ErrSpace},
		{api.Auto{Space: b, States: -1, Trans: make([]api.Trans, api.MaxTrans+1)}, api.ErrMany},
		{api.Auto{Space: b, States: -1}, api.ErrAuto}, {api.Auto{Space: b, States: api.MaxStates + 1}, api.ErrAuto}, {api.Auto{Space: b, Symbols: -1}, api.ErrAuto}, {api.Auto{Space: b, Symbols: api.MaxSymbols + 1}, api.ErrAuto},
		{api.Auto{Space: b, States: 2, Final: []int{2}}, api.ErrAuto}, {api.Auto{Space: b, States: 2, Final: []int{-1}}, api.ErrAuto}, {api.Auto{Space: b, States: 2, Final: []int{1, 0}}, api.ErrAuto}, {api.Auto{Space: b, States: 2, Final: []int{1, 1}}, api.ErrAuto},
		{api.Auto{Space: b, States: 2, Trans: []api.Trans{{W: zero, Sym: -1}, {From: 2, Sym: -1}}}, api.ErrAuto}, {api.Auto{Space: b, States: 2, Trans: []api.Trans{{To: -1, Sym: -1}}}, api.ErrAuto},
		{api.Auto{Space: b, States: 2, Trans: []api.Trans{{Sym: 0}}}, api.ErrAuto}, {api.Auto{Space: b, States: 2, Trans: []api.Trans{{Sym: -2}}}, api.ErrAuto},
		{api.Auto{Space: b, States: 2, Trans: []api.Trans{{Sym: -1, W: zero}}}, api.ErrWeight},
	} {
		_, e1 := Canon(c.a)
		_, e2 := Value(c.a, true, 99, 99)
		_, e3 := Total(c.a, true, 99)
		_, _, _, e4 := Path(c.a, true, 99, 99)
		_, e5 := Trim(c.a, 99)
		_, e6 := Meet(c.a, api.Dfa{})
		for i, e := range []api.Errno{Check(c.a), e1, e2, e3, e4, e5, e6} {
			if e != c.want {
				t.Error(i, e, c.want)
			}
		}
	}
	a := cost9()
	if w, e := Value(a, false, 2, 9); e != api.ErrState || !weight.Same(w, api.Weight{}) {
		t.Error(e)
	}
	if w, e := Value(a, false, 0, 0, 1); e != api.ErrSym || !weight.Same(w, api.Weight{}) {
		t.Error(e)
	}
	if _, e := Value(a, false, 0, -1); e != api.ErrSym {
		t.Error(e)
	}
	if _, e := Total(a, false, -1); e != api.ErrState {
		t.Error(e)
	}
	if _, e := Trim(a, 0, 2); e != api.ErrState {
		t.Error(e)
	}
	if Check(api.Auto{Space: b}) != 0 || Check(api.Auto{Space: b, States: api.MaxStates, Symbols: api.MaxSymbols, Trans: make([]api.Trans, api.MaxTrans)}) != 0 {
		t.Error("at the limit")
	}
}

func TestP10_1(t *testing.T) {
	for i := range 120 {
		d := samples.New(i)
		s := samples.Spaces()[i%6]
		a := d.Auto(s, 3, 2, 9, true)
		c, e := Canon(a)
		if e != 0 || Check(c) != 0 {
			t.Fatal(a, c, e)
		}
		zero, _ := weight.Zero(s)
		sums := map[arrow]api.Weight{}
		for _, x := range a.Trans {
			k := arrow{x.From, x.Sym, x.To}
			old, known := sums[k]
			if !known {
				old = zero
			}
			sums[k], _ = weight.Combine(s, old, x.W)
		}
		for k, w := range sums {
			if weight.Same(w, zero) {
				delete(sums, k)
			}
		}
		for j, x := range c.Trans {
			if !weight.Same(sums[arrow{x.From, x.Sym, x.To}], x.W) || j > 0 && order(c.Trans[j-1], x) >= 0 {
				t.Fatal(a, c)
			}
		}
		if len(sums) != len(c.Trans) || !slices.Equal(a.Final, c.Final) || a.States != c.States {
			t.Fatal(a, c)
		}
		if again, _ := Canon(c); !Same(again, c) || Same(a, c) && len(a.Trans) != len(c.Trans) {
			t.Fatal(c, again)
		}
	}
	a, b := cost9(), cost9()
	if !Same(a, b) {
		t.Error("Same")
	}
	b.Trans[2].W.Cost = 4
	if Same(a, b) {
		t.Error("Same")
	}
}

func TestP10_2(t *testing.T) {
	a := cost9()
	if w, e := Value(a, false, 0, 0); w.Cost != 3 || e != 0 {
		t.Error(w, e)
	}
	if w, e := Total(a, true, 0); w.Cost != 3 || e != 0 {
		t.Error(w, e)
	}
	if w, e := Total(a, false, 1); w.Cost != 0 || w.Zero || e != 0 {
		t.Error(w, e)
	}
	if w, e := Value(a, false, 1, 0); !w.Zero || e != 0 {
		t.Error(w, e)
	}
	for i := range 90 {
		d := samples.New(i)
		s := samples.Spaces()[i%6]
		a := d.Auto(s, 3, 2, 7, i%4 > 0)
		for _, back := range []bool{false, true} {
			for from := range 3 {
				for _, w := range samples.Words(2, 2) {
					want := paths(a, back, from, w, false, 14)
					if got, e := Value(a, back, from, w...); !weight.Same(got, want) || e != 0 {
						t.Fatal(i, back, from, w, got, want, e)
					}
				}
				want := paths(a, back, from, nil, true, 14)
				if got, e := Total(a, back, from); !weight.Same(got, want) || e != 0 {
					t.Fatal(i, back, from, got, want, e)
				}
			}
		}
	}
}

func TestP10_3(t *testing.T) {
	a := cost9()
	if w, word, ok, e := Path(a, false, 0, 1, 1, 2); w.Cost != 7 || !slices.Equal(word, []int{0}) || !ok || e != 0 {
		t.Error(w, word, ok, e)
	}
	if w, word, ok, e := Path(a, true, 0); w.Cost != 0 || len(word) > 0 || ok || e != 0 {
		t.Error(w, word, ok, e)
	}
	for _, l := range [][]int{{3}, {-1}, {0, 1}, {0, 0}} {
		if w, word, ok, e := Path(a, false, 0, l...); w.Cost != 0 || word != nil || ok || e != api.ErrRange {
			t.Error(l, w, word, ok, e)
		}
	}
	if _, _, _, e := Path(a, false, 1, 0); e != api.ErrRange {
		t.Error(e)
	}
	if _, _, _, e := Path(a, false, 2, 9); e != api.ErrState {
		t.Error(e)
	}
	s := samples.Spaces()[3]
	one, two := api.Weight{Cells: []api.Cell{{Kind: api.CellOne, K: 1}, {From: 2}}}, api.Weight{Cells: []api.Cell{{From: 2}, {From: 2}}}
	b := api.Auto{Space: s, States: 1, Symbols: 1, Trans: []api.Trans{{W: one}, {W: two}}}
	forth, _, _, _ := Path(b, false, 0, 0, 1)
	back, _, _, _ := Path(b, true, 0, 0, 1)
	if weight.Same(forth, back) || !weight.Same(back, one) {
		t.Error(forth, back)
	}
}

func TestP10_4(t *testing.T) {
	one := api.Weight{}
	a := api.Auto{Space: api.Space{Tag: api.Bool}, States: 6, Symbols: 1, Final: []int{2, 5}, Trans: []api.Trans{{From: 3, To: 2, W: one}, {From: 0, To: 1}, {From: 1, To: 2}, {From: 1, To: 4}, {From: 0, To: 3, W: api.Weight{Zero: true}}, {From: 4, To: 4, Sym: -1}, {From: 2, To: 1, Sym: -1}}}
	b, e := Trim(a, 0)
	if e != 0 || len(b.Trans) != 3 || b.Trans[0].From != 0 || b.Trans[1].From != 1 || b.Trans[2].From != 2 || b.States != 6 {
		t.Error(b, e)
	}
	if b, _ := Trim(a); len(b.Trans) != 0 {
		t.Error(b)
	}
	if b, _ := Trim(a, 3, 4); len(b.Trans) != 3 || b.Trans[0].From != 3 {
		t.Error(b)
	}
}

func lang(s string) api.Dfa {
	r, _, _ := regex.Parse(s)
	d, _ := dfa.Make(r, "a", "b")
	return d
}

func TestP10_5(t *testing.T) {
	a := cost9()
	if _, e := Meet(a, api.Dfa{}); e != api.ErrDfa {
		t.Error(e)
	}
	if _, e := Meet(a, lang("a")); e != api.ErrDfa {
		t.Error(e)
	}
	two := api.Dfa{Symbols: 1, Next: [][]int{{1}, {1}}, Accept: []bool{true, true}}
	m, e := Meet(a, two)
	want := []api.Trans{{From: 0, To: 3}, {From: 1, To: 3}, {From: 0, Sym: -1}, {From: 1, Sym: -1, To: 1}, {From: 0, To: 3}, {From: 1, To: 3}}
	if e != 0 || m.States != 4 || !slices.Equal(m.Final, []int{2, 3}) || len(m.Trans) != 6 {
		t.Fatal(m, e)
	}
	for i, x := range m.Trans {
		if order(x, want[i]) != 0 || !weight.Same(x.W, a.Trans[i/2].W) {
			t.Error(i, x)
		}
	}
	a.States = api.MaxStates / 2
	if _, e := Meet(a, two); e != 0 {
		t.Error(e)
	}
	a.States++
	if _, e := Meet(a, two); e != api.ErrMany {
		t.Error(e)
	}
	a = cost9()
	a.Trans = slices.Repeat(a.Trans[:1], api.MaxTrans/2)
	if _, e := Meet(a, two); e != 0 {
		t.Error(e)
	}
	a.Trans = append(a.Trans, a.Trans[0])
	if _, e := Meet(a, two); e != api.ErrMany {
		t.Error(e)
	}
}

func TestP10_6(t *testing.T) {
	for i := range 60 {
		d := samples.New(i)
		s := samples.Spaces()[i%6]
		a := d.Auto(s, 3, 2, 8, true)
		for range 30 {
			from := d.Below(3)
			var l []int
			at := from
			for range d.Below(5) {
				for j, x := range a.Trans {
					if x.From == at && d.Below(2) == 0 {
						l, at = append(l, j), x.To
						break
					}
				}
			}
			back := d.Below(2) == 0
			v, word, accepted, e := Path(a, back, from, l...)
			w, _ := Value(a, back, from, word...)
			total, _ := Total(a, back, from)
			x, _ := weight.Below(s, v, w)
			y, _ := weight.Below(s, w, total)
			if e != 0 || accepted && !x || !y {
				t.Fatal(i, l, e)
			}
		}
	}
}

func TestP10_7(t *testing.T) {
	for i := range 60 {
		d := samples.New(i)
		a := d.Auto(samples.Spaces()[i%6], 4, 2, 8, true)
		canon, _ := Canon(a)
		trim, e := Trim(a, 0, 2)
		if e != 0 || Check(trim) != 0 {
			t.Fatal(e)
		}
		for _, w := range samples.Words(3, 2) {
			for from := range 4 {
				back := len(w)%2 == 0
				v, _ := Value(a, back, from, w...)
				x, _ := Value(canon, back, from, w...)
				y, _ := Value(trim, back, from, w...)
				if !weight.Same(v, x) || from%2 == 0 && !weight.Same(v, y) {
					t.Fatal(i, w, from)
				}
			}
		}
	}
}

func TestP10_8(t *testing.T) {
	for i := range 60 {
		d := samples.New(i)
		s := samples.Spaces()[i%6]
		a := d.Auto(s, 3, 2, 8, true)
		l := lang([]string{"(a b)* (a | %)", ".*", "!(. .)", "b a*", "#"}[i%5])
		m, e := Meet(a, l)
		if e != 0 || Check(m) != 0 {
			t.Fatal(e)
		}
		for _, w := range samples.Words(3, 2) {
			for from := range 3 {
				want, _ := weight.Zero(s)
				if _, ok, _ := dfa.Run(l, w...); ok {
					want, _ = Value(a, i%2 == 0, from, w...)
				}
				if got, _ := Value(m, i%2 == 0, from*len(l.Next), w...); !weight.Same(got, want) {
					t.Fatal(i, w, from)
				}
			}
		}
	}
}

func TestP10_9(t *testing.T) {
	for i := range 60 {
		d := samples.New(i)
		s := samples.Spaces()[i%6]
		a := d.Auto(s, 3, 2, 8, true)
		b := a
		b.Trans = a.Trans[:7]
		for _, w := range samples.Words(3, 2) {
			x, _ := Value(b, i%2 == 0, 0, w...)
			y, _ := Value(a, i%2 == 0, 0, w...)
			if ok, _ := weight.Below(s, x, y); !ok {
				t.Fatal(i, w)
			}
		}
	}
}
