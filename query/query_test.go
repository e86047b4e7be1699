package query

import (
	"slices"
	"testing"

	"stackyard/api"
	"stackyard/dfa"
	"stackyard/regex"
	"stackyard/samples"
	"stackyard/steps"
	"stackyard/weight"
	"stackyard/wfa"
)

func conf(p int, w ...int) api.Conf { return api.Conf{P: p, W: w} }

func same(c, d api.Conf) bool { return c.P == d.P && slices.Equal(c.W, d.W) }

func system() api.Pds {
	return api.Pds{Space: api.Space{Tag: api.Bool}, States: 2, Symbols: 2}
}

func TestP14_1(t *testing.T) {
	p := system()
	good := api.Auto{Space: p.Space, States: 3, Symbols: 2, Trans: []api.Trans{{To: 2}, {From: 2, Sym: 1, To: 2}}}
	if Check(p, good) != 0 || Check(p, api.Auto{Space: p.Space, States: 2, Symbols: 2}) != 0 {
		t.Error("Check")
	}
	for i, c := range []struct {
		want   api.Errno
		change func(p *api.Pds, a *api.Auto)
	}{
		{api.ErrPds, func(p *api.Pds, a *api.Auto) { p.States, a.States = -1, -1 }},
		{api.ErrAuto, func(p *api.Pds, a *api.Auto) { a.Trans[0].To, a.Symbols = 9, 9 }},
		{api.ErrQuery, func(p *api.Pds, a *api.Auto) { a.Space = api.Space{Tag: api.Cost} }},
		{api.ErrQuery, func(p *api.Pds, a *api.Auto) { a.Symbols++ }},
		{api.ErrQuery, func(p *api.Pds, a *api.Auto) { p.States = 4 }},
		{api.ErrQuery, func(p *api.Pds, a *api.Auto) { a.Trans[0].Sym = -1 }},
		{api.ErrQuery, func(p *api.Pds, a *api.Auto) { a.Trans[1].To = 1 }},
	} {
		q, a := p, good
		a.Trans = slices.Clone(a.Trans)
		c.change(&q, &a)
		if Check(q, a) != c.want {
			t.Error(i, Check(q, a))
		}
		if l, e := List(q, a, false, -1, -1); l != nil || e != c.want {
			t.Error(i, e)
		}
	}
}

func TestP14_2(t *testing.T) {
	p := system()
	p.Symbols = 5
	a, e := One(p, conf(1, 3, 4))
	if e != 0 || a.States != 4 || !slices.Equal(a.Final, []int{3}) || len(a.Trans) != 2 || a.Trans[0].From != 1 || a.Trans[0].Sym != 3 || a.Trans[0].To != 2 || a.Trans[1].From != 2 || a.Trans[1].Sym != 4 || a.Trans[1].To != 3 || Check(p, a) != 0 {
		t.Error(a, e)
	}
	if a, e := One(p, conf(1)); e != 0 || a.States != 2 || !slices.Equal(a.Final, []int{1}) || len(a.Trans) != 0 {
		t.Error(a, e)
	}
	if a, e := One(p, conf(2)); e != api.ErrConf || a.States != 0 {
		t.Error(a, e)
	}
	if a, e := One(p, conf(0, make([]int, api.MaxStates-2)...)); e != 0 || a.States != api.MaxStates {
		t.Error(e)
	}
	if a, e := One(p, conf(0, make([]int, api.MaxStates-1)...)); e != api.ErrMany || a.States != 0 {
		t.Error(e)
	}
}

func lang(s string) api.Dfa {
	r, _, _ := regex.Parse(s)
	d, _ := dfa.Make(r, "a", "b")
	return d
}

func TestP14_3(t *testing.T) {
	p := system()
	d := api.Dfa{Symbols: 2, Next: [][]int{{1, 0}, {1, 1}}, Accept: []bool{true, false}}
	a, e := Of(p, api.Part{P: 1, Lang: d}, api.Part{P: 0, Lang: lang("a")})
	want := [][3]int{{1, 0, 3}, {1, 1, 2}, {2, 0, 3}, {2, 1, 2}, {3, 0, 3}, {3, 1, 3}}
	if e != 0 || a.States != 7 || !slices.Equal(a.Final, []int{1, 2, 5}) || len(a.Trans) != 6+8 || Check(p, a) != 0 {
		t.Fatal(a, e)
	}
	for i, x := range want {
		if y := a.Trans[i]; [3]int{y.From, y.Sym, y.To} != x {
			t.Error(i, y)
		}
	}
	if a, e := Of(p); e != 0 || a.States != 2 || len(a.Trans)+len(a.Final) != 0 {
		t.Error(a, e)
	}
	wrong := api.Dfa{Symbols: 1, Next: [][]int{{0}}, Accept: []bool{true}}
	for i, c := range []struct {
		l    []api.Part
		want api.Errno
	}{{[]api.Part{{P: 2}}, api.ErrState}, {[]api.Part{{P: -1}}, api.ErrState}, {[]api.Part{{P: 0}, {P: 2}}, api.ErrDfa}, {[]api.Part{{P: 0, Lang: wrong}, {P: 0}}, api.ErrQuery}} {
		if a, e := Of(p, c.l...); e != c.want || a.States != 0 {
			t.Error(i, e)
		}
	}
	if _, e := Of(api.Pds{}, api.Part{P: 9}); e != api.ErrSpace {
		t.Error(e)
	}
	big := api.Dfa{Symbols: 2, Accept: make([]bool, 1024), Next: slices.Repeat([][]int{{0, 0}}, 1024)}
	four := []api.Part{{Lang: big}, {Lang: big}, {Lang: big}, {Lang: big}}
	if _, e := Of(p, four...); e != api.ErrMany {
		t.Error(e)
	}
	four[3].Lang = api.Dfa{Symbols: 2, Accept: make([]bool, 1022), Next: big.Next[:1022]}
	if a, e := Of(p, four...); e != 0 || a.States != api.MaxStates {
		t.Error(e)
	}
	p.Symbols = 64
	wide := api.Dfa{Symbols: 64, Accept: make([]bool, 1024), Next: slices.Repeat([][]int{make([]int, 64)}, 1024)}
	if _, e := Of(p, api.Part{Lang: wide}); e != api.ErrMany {
		t.Error(e)
	}
	wide.Accept, wide.Next = wide.Accept[:1023], wide.Next[:1023]
	if a, e := Of(p, api.Part{Lang: wide}); e != 0 || len(a.Trans) != api.MaxTrans {
		t.Error(e)
	}
}

func TestP14_4(t *testing.T) {
	for i := range 120 {
		d := samples.New(i)
		p := d.Pds(samples.Spaces()[i%6], 2, 2, 1, 2)
		a := d.Query(p, 3, 5)
		zero, _ := weight.Zero(p.Space)
		var want []api.Conf
		for c := range 2 {
			for _, w := range samples.Words(4, 2) {
				if v, _ := wfa.Value(a, i%2 == 0, c, w...); !weight.Same(v, zero) {
					want = append(want, conf(c, w...))
				}
			}
		}
		got, e := List(p, a, i%2 == 0, 4, 1000)
		if e != 0 || !slices.EqualFunc(got, want, same) {
			t.Fatal(i, got, want, e)
		}
		for j := range got {
			if j > 0 && !steps.Less(got[j-1], got[j]) {
				t.Error(got)
			}
		}
	}
	p := system()
	all, _ := Of(p, api.Part{Lang: lang(".*")})
	if l, e := List(p, all, false, 4, 31); len(l) != 31 || e != 0 {
		t.Error(len(l), e)
	}
	if l, e := List(p, all, false, 4, 30); l != nil || e != api.ErrMany {
		t.Error(len(l), e)
	}
	if l, e := List(p, all, false, 100, 100000); l != nil || e != api.ErrMany {
		t.Error(len(l), e)
	}
	thin, _ := Of(p, api.Part{P: 1, Lang: lang("(a b)* b")})
	if l, e := List(p, thin, true, 100, 100); len(l) != 50 || len(l[49].W) != 99 || e != 0 {
		t.Error(len(l), e)
	}
	if l, e := List(p, all, false, 0, 1); len(l) != 1 || e != 0 {
		t.Error(len(l), e)
	}
	for _, b := range [][2]int{{-1, 1}, {101, 1}, {0, 0}, {0, 100001}} {
		if l, e := List(p, all, false, b[0], b[1]); l != nil || e != api.ErrArg {
			t.Error(l, e)
		}
	}
	half := api.Space{Tag: api.Pair, Parts: []api.Space{p.Space, p.Space}}
	left, right := api.Weight{Parts: []api.Weight{{}, {Zero: true}}}, api.Weight{Parts: []api.Weight{{Zero: true}, {}}}
	q := api.Pds{Space: half, States: 1, Symbols: 2}
	b := api.Auto{Space: half, States: 3, Symbols: 2, Final: []int{2}, Trans: []api.Trans{{To: 1, W: left}, {From: 1, To: 2, W: right}, {From: 1, Sym: 1, To: 2, W: left}}}
	if l, e := List(q, b, false, 3, 10); len(l) != 1 || !same(l[0], conf(0, 0, 1)) || e != 0 {
		t.Error(l, e)
	}
}

func TestP14_5(t *testing.T) {
	p := system()
	zero, _ := weight.Zero(p.Space)
	for c := range 2 {
		for _, w := range samples.Words(3, 2) {
			a, _ := One(p, conf(c, w...))
			for d := range 2 {
				for _, x := range samples.Words(3, 2) {
					v, _ := wfa.Value(a, false, d, x...)
					if weight.Same(v, zero) == same(conf(c, w...), conf(d, x...)) {
						t.Error(c, w, d, x)
					}
				}
			}
		}
	}
}

func TestP14_6(t *testing.T) {
	p := system()
	l := []string{"a*", "%", "b a | a", "!(a b)", "#"}
	for i, x := range l {
		for j, y := range l {
			parts := []api.Part{{P: i % 2, Lang: lang(x)}, {P: j % 2, Lang: lang(y)}}
			a, _ := Of(p, parts...)
			for c := range 2 {
				for _, w := range samples.Words(3, 2) {
					in := false
					for _, part := range parts {
						_, ok, _ := dfa.Run(part.Lang, w...)
						in = in || ok && part.P == c
					}
					if v, _ := wfa.Value(a, true, c, w...); v.Zero == in {
						t.Error(x, y, c, w)
					}
				}
			}
		}
	}
}
