package limit

import (
	"slices"
	"testing"

	"stackyard/api"
	"stackyard/samples"
	"stackyard/steps"
	"stackyard/weight"
	"stackyard/wfa"
)

func conf(p int, w ...int) api.Conf { return api.Conf{P: p, W: w} }

// small is the example: the stack 0, doubled at cost 1, taken away at cost 2.
func small() api.Pds {
	return api.Pds{Space: api.Space{Tag: api.Cost, Dim: 9}, States: 1, Symbols: 1, Rules: []api.Rule{{W: []int{0, 0}, F: api.Weight{Cost: 1}}, {F: api.Weight{Cost: 2}}}}
}

// byRuns combines by definition all runs between c and any configuration, each replayed on its own.
func byRuns(p api.Pds, a api.Auto, c api.Conf, n int, back bool) api.Weight {
	sum, _ := weight.Zero(p.Space)
	var walk func(d api.Conf, run []int)
	walk = func(d api.Conf, run []int) {
		v, _ := wfa.Value(a, back, d.P, d.W...)
		if back {
			order := slices.Clone(run)
			slices.Reverse(order)
			_, f, _, _ := steps.Run(p, d, order...)
			v, _ = weight.Extend(p.Space, v, f)
		} else {
			_, f, _, _ := steps.Run(p, c, run...)
			v, _ = weight.Extend(p.Space, f, v)
		}
		sum, _ = weight.Combine(p.Space, sum, v)
		if len(run) == n {
			return
		}
		next := steps.Next
		if back {
			next = steps.Back
		}
		rules, confs, _ := next(p, d)
		for i, x := range confs {
			walk(x, append(run[:len(run):len(run)], rules[i]))
		}
	}
	walk(c, nil)
	return sum
}

func TestErrors(t *testing.T) {
	p, a := small(), api.Auto{Space: small().Space, States: 1, Symbols: 1}
	other, fewer, wrong := a, a, a
	other.Space.Dim = 8
	fewer.States = 0
	wrong.States = -1
	for i, c := range []struct {
		p    api.Pds
		a    api.Auto
		c    api.Conf
		n    int
		want api.Errno
	}{{api.Pds{}, wrong, conf(9), -1, api.ErrSpace}, {p, wrong, conf(9), -1, api.ErrConf}, {p, wrong, conf(0), -1, api.ErrRange}, {p, wrong, conf(0), 65, api.ErrRange}, {p, wrong, conf(0), 64, api.ErrAuto}, {p, other, conf(0), 0, api.ErrArg}, {p, fewer, conf(0), 0, api.ErrArg}} {
		for _, f := range []func(api.Pds, api.Auto, api.Conf, int) (api.Weight, api.Errno){Post, Pre} {
			if w, e := f(c.p, c.a, c.c, c.n); e != c.want || !weight.Same(w, api.Weight{}) {
				t.Error(i, e)
			}
		}
	}
	for i, c := range []struct {
		from, to api.Conf
		n        int
		want     api.Errno
	}{{conf(1), conf(0), -1, api.ErrConf}, {conf(0), conf(0, 1), -1, api.ErrConf}, {conf(0), conf(0), -1, api.ErrRange}, {conf(0), conf(0), 65, api.ErrRange}, {conf(0), conf(0), 13, api.ErrMany}} {
		l, e := Runs(p, c.from, c.to, c.n)
		w, e2 := Worth(p, c.from, c.to, c.n)
		if e != c.want || e2 != c.want || l != nil || !weight.Same(w, api.Weight{}) {
			t.Error(i, e, e2)
		}
	}
}

// samplesOf is a system, an automaton over it, and configurations.
func samplesOf(i int) (api.Pds, api.Auto, []api.Conf) {
	d := samples.New(i)
	p := d.Pds(samples.Spaces()[i%6], 2, 2, 4, 2)
	a := d.Auto(p.Space, 4, 2, 8, true)
	return p, a, []api.Conf{conf(0), conf(0, 1), conf(1, 0, 1)}
}

func TestP13_1(t *testing.T) {
	for i := range 60 {
		p, a, l := samplesOf(i)
		for _, c := range l {
			for n := range 4 {
				if w, e := Post(p, a, c, n); e != 0 || !weight.Same(w, byRuns(p, a, c, n, true)) {
					t.Fatal(i, c, n, w, e)
				}
			}
		}
	}
	s := api.Space{Tag: api.Bool}
	pop := api.Pds{Space: s, States: 1, Symbols: 2, Rules: []api.Rule{{}, {G: 1}}}
	a := api.Auto{Space: s, States: 1, Symbols: 2}
	if _, e := Post(pop, a, conf(0), 12); e != 0 {
		t.Error(e)
	}
	if w, e := Post(pop, a, conf(0), 13); e != api.ErrMany || !weight.Same(w, api.Weight{}) {
		t.Error(e)
	}
	full := conf(0, make([]int, api.MaxWord-2)...)
	if _, e := Post(pop, a, full, 2); e != 0 {
		t.Error(e)
	}
	if w, e := Post(pop, a, full, 3); e != api.ErrLong || !weight.Same(w, api.Weight{}) {
		t.Error(e)
	}
	if _, e := Post(pop, a, conf(0, make([]int, api.MaxWord-12)...), 13); e != api.ErrLong {
		t.Error("long ahead of many", e)
	}
	if _, e := Post(pop, a, conf(0, make([]int, api.MaxWord-13)...), 14); e != api.ErrMany {
		t.Error("many in an earlier level", e)
	}
}

func TestP13_2(t *testing.T) {
	for i := range 60 {
		p, a, l := samplesOf(i)
		for _, c := range l {
			for n := range 4 {
				if w, e := Pre(p, a, c, n); e != 0 || !weight.Same(w, byRuns(p, a, c, n, false)) {
					t.Fatal(i, c, n, w, e)
				}
			}
		}
	}
	s := api.Space{Tag: api.Bool}
	push := api.Pds{Space: s, States: 1, Symbols: 2, Rules: []api.Rule{{W: []int{0, 0}}, {W: []int{0, 1}}}}
	a := api.Auto{Space: s, States: 1, Symbols: 2}
	if _, e := Pre(push, a, conf(0, 0), 12); e != 0 {
		t.Error(e)
	}
	if _, e := Pre(push, a, conf(0, 0), 13); e != api.ErrMany {
		t.Error(e)
	}
	if _, e := Pre(push, a, conf(0, make([]int, api.MaxWord-2)...), 3); e != api.ErrLong {
		t.Error(e)
	}
}

func TestP13_3(t *testing.T) {
	p := small()
	l, e := Runs(p, conf(0, 0), conf(0, 0), 2)
	if e != 0 || len(l) != 2 || len(l[0]) != 0 || !slices.Equal(l[1], []int{0, 1}) {
		t.Error(l, e)
	}
	if w, e := Worth(p, conf(0, 0), conf(0, 0), 2); w.Cost != 0 || w.Zero || e != 0 {
		t.Error(w, e)
	}
	if w, e := Worth(p, conf(0, 0), conf(0, 0, 0), 3); w.Cost != 1 || e != 0 {
		t.Error(w, e)
	}
	if w, e := Worth(p, conf(0), conf(0, 0), 3); !w.Zero || e != 0 {
		t.Error(w, e)
	}
	l, e = Runs(p, conf(0, 0), conf(0), 3)
	if e != 0 || len(l) != 2 || !slices.Equal(l[0], []int{1}) || !slices.Equal(l[1], []int{0, 1, 1}) {
		t.Error(l, e)
	}
	tens := api.Pds{Space: p.Space, States: 1, Symbols: 1}
	for range 99 {
		tens.Rules = append(tens.Rules, api.Rule{W: []int{0}})
	}
	if l, e := Runs(tens, conf(0, 0), conf(0, 0), 2); len(l) != 1+99+99*99 || e != 0 {
		t.Error(len(l), e)
	}
	tens.Rules = append(tens.Rules, api.Rule{W: []int{0}})
	if l, e := Runs(tens, conf(0, 0), conf(0, 0), 2); l != nil || e != api.ErrMany {
		t.Error(len(l), e)
	}
	one := api.Pds{Space: p.Space, States: 1, Symbols: 1, Rules: []api.Rule{{W: []int{0}}}}
	if l, e := Runs(one, conf(0, 0), conf(0, 0), 12); len(l) != 13 || e != 0 {
		t.Error(len(l), e)
	}
	full := conf(0, make([]int, api.MaxWord)...)
	if l, e := Runs(p, full, full, 1); l != nil || e != api.ErrLong {
		t.Error(len(l), e)
	}
	if l, e := Runs(p, full, full, 0); len(l) != 1 || e != 0 {
		t.Error(len(l), e)
	}
	if _, e := Runs(p, full, conf(9), 13); e != api.ErrConf {
		t.Error(e)
	}
}

func TestP13_4(t *testing.T) {
	for i := range 60 {
		p, a, l := samplesOf(i)
		for _, c := range l {
			for _, f := range []func(api.Pds, api.Auto, api.Conf, int) (api.Weight, api.Errno){Post, Pre} {
				last, _ := f(p, a, c, 0)
				for n := 1; n < 6; n++ {
					w, e := f(p, a, c, n)
					if ok, _ := weight.Below(p.Space, last, w); !ok || e != 0 {
						t.Fatal(i, c, n, e)
					}
					last = w
				}
			}
		}
	}
}

func TestP13_5(t *testing.T) {
	for i := range 60 {
		p, a, l := samplesOf(i)
		for _, c := range l {
			for n := range 4 {
				want, _ := wfa.Value(a, true, c.P, c.W...)
				rules, confs, _ := steps.Back(p, c)
				for k, d := range confs {
					w, _ := Post(p, a, d, n)
					w, _ = weight.Extend(p.Space, w, p.Rules[rules[k]].F)
					want, _ = weight.Combine(p.Space, want, w)
				}
				if w, _ := Post(p, a, c, n+1); !weight.Same(w, want) {
					t.Fatal(i, c, n)
				}
				want, _ = wfa.Value(a, false, c.P, c.W...)
				rules, confs, _ = steps.Next(p, c)
				for k, d := range confs {
					w, _ := Pre(p, a, d, n)
					w, _ = weight.Extend(p.Space, p.Rules[rules[k]].F, w)
					want, _ = weight.Combine(p.Space, want, w)
				}
				if w, _ := Pre(p, a, c, n+1); !weight.Same(w, want) {
					t.Fatal(i, c, n)
				}
			}
		}
	}
}

func TestP13_6(t *testing.T) {
	for i := range 40 {
		p, _, l := samplesOf(i)
		one, _ := weight.One(p.Space)
		for _, from := range l {
			a := api.Auto{Space: p.Space, States: 2 + len(from.W), Symbols: 2}
			at := from.P
			for k, g := range from.W {
				a.Trans = append(a.Trans, api.Trans{From: at, Sym: g, To: 2 + k, W: one})
				at = 2 + k
			}
			a.Final = []int{at}
			for _, to := range l {
				for n := range 4 {
					x, e := Post(p, a, to, n)
					y, e2 := Worth(p, from, to, n)
					if e != 0 || e2 != 0 || !weight.Same(x, y) {
						t.Fatal(i, from, to, n)
					}
				}
			}
		}
	}
}
