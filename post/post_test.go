package post

import (
	"slices"
	"testing"

	"stackyard/api"
	"stackyard/limit"
	"stackyard/query"
	"stackyard/samples"
	"stackyard/weight"
	"stackyard/wfa"
)

// sample is a short system and a query of it.
func sample(i int) (api.Pds, api.Auto) {
	d := samples.New(i)
	p := d.Pds(samples.Spaces()[i%6], 2, 2, 3+i%4, 2)
	return p, d.Query(p, 2, 4)
}

func saturate(t *testing.T, p api.Pds, a api.Auto, picks ...int) api.Saturated {
	t.Helper()
	s, e := Make(p, a, 1<<40, picks...)
	if e != 0 {
		t.Fatal(e)
	}
	return s
}

// byDefinition saturates by adding all that follows, over and over.
func byDefinition(p api.Pds, a api.Auto) api.Auto {
	ms, _ := Mids(p)
	b, _ := wfa.Canon(a)
	b.States += len(ms)
	one, _ := weight.One(p.Space)
	zero, _ := weight.Zero(p.Space)
	for {
		c := b
		c.Trans = slices.Clone(b.Trans)
		put := func(r api.Rule, end int, v api.Weight) {
			w, _ := weight.Extend(p.Space, v, r.F)
			if weight.Same(w, zero) {
				return
			}
			switch len(r.W) {
			case 0:
				c.Trans = append(c.Trans, api.Trans{From: r.Q, Sym: -1, To: end, W: w})
			case 1:
				c.Trans = append(c.Trans, api.Trans{From: r.Q, Sym: r.W[0], To: end, W: w})
			case 2:
				m := a.States + slices.Index(ms, [2]int{r.Q, r.W[0]})
				c.Trans = append(c.Trans, api.Trans{From: r.Q, Sym: r.W[0], To: m, W: one}, api.Trans{From: m, Sym: r.W[1], To: end, W: w})
			}
		}
		for _, r := range p.Rules {
			for _, x := range b.Trans {
				if x.From == r.P && x.Sym == r.G {
					put(r, x.To, x.W)
				}
				for _, y := range b.Trans {
					if x.From == r.P && x.Sym == -1 && y.From == x.To && y.Sym == r.G {
						v, _ := weight.Extend(p.Space, y.W, x.W)
						put(r, y.To, v)
					}
				}
			}
		}
		c, _ = wfa.Canon(c)
		if wfa.Same(b, c) {
			return b
		}
		b = c
	}
}

func TestP15_1(t *testing.T) {
	p := api.Pds{Space: api.Space{Tag: api.Bool}, States: 2, Symbols: 3, Rules: []api.Rule{{Q: 1, W: []int{2, 0}}, {Q: 0, W: []int{1, 1}}, {W: []int{2}}, {P: 1, Q: 1, W: []int{2, 1}}, {}}}
	if l, e := Mids(p); !slices.Equal(l, [][2]int{{1, 2}, {0, 1}}) || e != 0 {
		t.Error(l, e)
	}
	p.Rules[2].W = []int{0, 0, 0}
	if l, e := Mids(p); l != nil || e != api.ErrShort {
		t.Error(l, e)
	}
	p.Rules[4].F.Cost = 1
	if l, e := Mids(p); l != nil || e != api.ErrWeight {
		t.Error(l, e)
	}
}

func TestErrors(t *testing.T) {
	good := api.Pds{Space: api.Space{Tag: api.Bool}, States: 1, Symbols: 2, Rules: []api.Rule{{W: []int{1, 0}}}}
	a := api.Auto{Space: good.Space, States: 2, Symbols: 2}
	long, none := good, a
	long.Rules = []api.Rule{{W: []int{0, 0, 0}}}
	none.Trans = []api.Trans{{Sym: -1, To: 1}}
	full := a
	full.States = api.MaxStates
	for i, c := range []struct {
		p    api.Pds
		a    api.Auto
		want api.Errno
	}{{api.Pds{}, none, api.ErrSpace}, {long, none, api.ErrShort}, {good, none, api.ErrQuery}, {good, api.Auto{}, api.ErrSpace}, {good, full, api.ErrMany}} {
		n, e1 := Bound(c.p, c.a)
		s, e2 := Make(c.p, c.a, -1)
		ok, at, e3 := Right(c.p, c.a, api.Saturated{})
		for j, e := range []api.Errno{e1, e2, e3} {
			if e != c.want || n != 0 || s.Log != nil || ok || at != 0 {
				t.Error(i, j, e)
			}
		}
	}
	full.States--
	if _, e := Bound(good, full); e != 0 {
		t.Error(e)
	}
	if ok, e := Follows(long, api.Auto{}); ok || e != api.ErrShort {
		t.Error(e)
	}
	if ok, e := Follows(good, api.Auto{}); ok || e != api.ErrSpace {
		t.Error(e)
	}
	for _, b := range []api.Auto{{Space: api.Space{Tag: api.Cost}, States: 2, Symbols: 2}, {Space: good.Space, States: 2, Symbols: 1}, {Space: good.Space, States: 1, Symbols: 2}} {
		if ok, e := Follows(good, b); ok || e != api.ErrQuery {
			t.Error(e)
		}
	}
	if ok, e := Follows(good, api.Auto{Space: good.Space, States: 2, Symbols: 2}); !ok || e != 0 {
		t.Error(ok, e)
	}
	if s, e := Make(good, a, 0); e != 0 || len(s.Log) != 0 {
		t.Error(e)
	}
	if _, _, e := Right(good, a, api.Saturated{}); e != api.ErrSpace {
		t.Error(e)
	}
}

func TestP15_2(t *testing.T) {
	p := api.Pds{Space: api.Space{Tag: api.Cost, Dim: 9}, States: 1, Symbols: 2, Rules: []api.Rule{{W: []int{1, 0}}}}
	a, _ := query.One(p, api.Conf{W: []int{0}})
	a.Trans = append(a.Trans, a.Trans[0], api.Trans{Sym: 1, To: 1, W: api.Weight{Zero: true}})
	if n, e := Bound(p, a); n != 3*3*3*11+1 || e != 0 {
		t.Error(n, e)
	}
	for i := range 60 {
		p, a := sample(i)
		n, e := Bound(p, a)
		s := saturate(t, p, a)
		if e != 0 || len(s.Log) > n {
			t.Error(i, n, e)
		}
	}
}

func TestP15_3(t *testing.T) {
	p := api.Pds{Space: api.Space{Tag: api.Cost, Dim: 9}, States: 1, Symbols: 2, Rules: []api.Rule{{W: []int{1, 0}, F: api.Weight{Cost: 1}}}}
	a, _ := query.One(p, api.Conf{W: []int{0}})
	s := saturate(t, p, a)
	want := []api.Trans{{To: 1}, {Sym: 1, To: 2}, {From: 2, To: 1, W: api.Weight{Cost: 1}}}
	if s.Auto.States != 3 || !wfa.Same(s.Auto, api.Auto{Space: p.Space, States: 3, Symbols: 2, Final: []int{1}, Trans: want}) {
		t.Error(s)
	}
	if v, _ := wfa.Value(s.Auto, true, 0, 1, 0); v.Cost != 1 {
		t.Error(v)
	}
	if s, e := Make(p, a, -1); e != api.ErrArg || s.Log != nil {
		t.Error(e)
	}
	for fuel := range 4 {
		s, e := Make(p, a, fuel)
		if want := api.ErrFuel; fuel < 3 && (e != want || s.Log != nil || s.Auto.States != 0) || fuel == 3 && e != 0 {
			t.Error(fuel, e)
		}
	}
	for i := range 120 {
		p, a := sample(i)
		s := saturate(t, p, a, i, -i, 7)
		if ok, at, e := Right(p, a, s); !ok || at != 0 || e != 0 {
			t.Fatal(i, ok, at, e)
		}
		if !wfa.Same(s.Auto, byDefinition(p, a)) {
			t.Fatal(i)
		}
		if _, e := Make(p, a, len(s.Log)-1, i, -i, 7); len(s.Log) > 0 && e != api.ErrFuel {
			t.Fatal(i, e)
		}
		again, e := Make(p, a, len(s.Log), i, -i, 7)
		if e != 0 || !slices.EqualFunc(again.Log, s.Log, sameCause) {
			t.Fatal(i, e)
		}
	}
}

func sameCause(c, d api.Cause) bool {
	return c.From == d.From && c.Sym == d.Sym && c.To == d.To && c.Rule == d.Rule && slices.Equal(c.Parts, d.Parts)
}

func TestP15_4(t *testing.T) {
	for i := range 60 {
		p, a := sample(i)
		s := saturate(t, p, a)
		if ok, e := Follows(p, s.Auto); !ok || e != 0 {
			t.Fatal(i, ok, e)
		}
		for k := range s.Auto.Trans {
			b := s.Auto
			b.Trans = slices.Delete(slices.Clone(b.Trans), k, k+1)
			given, _ := wfa.Canon(a)
			isGiven := slices.ContainsFunc(given.Trans, func(x api.Trans) bool {
				y := s.Auto.Trans[k]
				return x.From == y.From && x.Sym == y.Sym && x.To == y.To
			})
			if ok, e := Follows(p, b); !isGiven && ok || e != 0 {
				t.Fatal(i, k, ok, e)
			}
		}
	}
}

func clone(s api.Saturated) api.Saturated {
	s.Auto.Trans = slices.Clone(s.Auto.Trans)
	s.Log = slices.Clone(s.Log)
	for i := range s.Log {
		s.Log[i].Parts = slices.Clone(s.Log[i].Parts)
	}
	return s
}

func TestP15_5(t *testing.T) {
	s2 := api.Space{Tag: api.Cost, Dim: 9}
	p := api.Pds{Space: s2, States: 1, Symbols: 2, Rules: []api.Rule{{W: []int{1, 0}, F: api.Weight{Cost: 1}}, {G: 1, F: api.Weight{Cost: 2}}, {W: []int{1}, F: api.Weight{Zero: true}}, {W: []int{1}, F: api.Weight{Cost: 3}}}}
	a, _ := query.One(p, api.Conf{W: []int{0}})
	s := saturate(t, p, a)
	n := len(s.Log)
	for i, c := range []struct {
		at     int
		change func(s *api.Saturated)
	}{
		{0, func(s *api.Saturated) { s.Log = nil }},
		{0, func(s *api.Saturated) { s.Log[0].Rule = 0 }},
		{0, func(s *api.Saturated) { s.Log[0].Parts = []int{0} }},
		{0, func(s *api.Saturated) { s.Log[0].To = 0 }},
		{1, func(s *api.Saturated) { s.Log[1].Rule = 99 }},
		{1, func(s *api.Saturated) { s.Log[1].Rule = len(p.Rules) }},
		{1, func(s *api.Saturated) { s.Log[1].Rule = -1 }},
		{1, func(s *api.Saturated) { s.Log[1].Parts = nil }},
		{1, func(s *api.Saturated) { s.Log[1].Parts = []int{1} }},
		{1, func(s *api.Saturated) { s.Log[1].Parts = []int{-1} }},
		{1, func(s *api.Saturated) { s.Log[1].Parts = []int{0, 0} }},
		{1, func(s *api.Saturated) { s.Log[1].To = 1 }},
		{2, func(s *api.Saturated) { s.Log[2] = s.Log[1] }},
		{n, func(s *api.Saturated) { s.Log = append(s.Log, s.Log[1]) }},
		{n, func(s *api.Saturated) {
			s.Log = append(s.Log, api.Cause{Sym: 1, To: 1, Rule: 2, Parts: []int{0}})
		}},
		{n, func(s *api.Saturated) { s.Auto.States++ }},
		{n, func(s *api.Saturated) { s.Auto.Symbols++ }},
		{n, func(s *api.Saturated) { s.Auto.Final = nil }},
		{n, func(s *api.Saturated) { s.Auto.Trans = s.Auto.Trans[1:] }},
		{n, func(s *api.Saturated) { s.Auto.Trans[0].W.Cost++ }},
		{n, func(s *api.Saturated) { s.Auto.Trans = append(s.Auto.Trans, api.Trans{From: 1, To: 1}) }},
		{n - 1, func(s *api.Saturated) { s.Log = s.Log[:n-1] }},
	} {
		x := clone(s)
		c.change(&x)
		if ok, at, e := Right(p, a, x); ok || at != c.at || e != 0 {
			t.Error(i, ok, at, e, "want", c.at)
		}
	}
	x := clone(s)
	x.Auto.Trans = append(x.Auto.Trans, api.Trans{From: 1, To: 1, W: api.Weight{Zero: true}}, x.Auto.Trans[0])
	if ok, at, e := Right(p, a, x); !ok || at != 0 || e != 0 {
		t.Error("another form", ok, at, e)
	}
}

func TestP15_6(t *testing.T) {
	alike, all := 0, 0
	for i := range 90 {
		p, a := sample(i)
		s := saturate(t, p, a)
		for c := range 2 {
			for _, w := range samples.Words(2, 2) {
				v, _ := wfa.Value(s.Auto, true, c, w...)
				x, e := limit.Post(p, a, api.Conf{P: c, W: w}, 9)
				if e != 0 {
					continue
				}
				if ok, _ := weight.Below(p.Space, x, v); !ok {
					t.Fatal(i, c, w, x, v)
				}
				all++
				if weight.Same(x, v) {
					alike++
				}
			}
		}
	}
	if alike*100 < all*95 {
		t.Error(alike, all)
	}
}

func TestP15_7(t *testing.T) {
	for i := range 60 {
		p, a := sample(i)
		s := saturate(t, p, a)
		for k := range 5 {
			x := saturate(t, p, a, k*31, -k*17, -1<<63, 1<<63-1, k)
			if !wfa.Same(s.Auto, x.Auto) {
				t.Fatal(i, k)
			}
		}
	}
}

func TestP15_8(t *testing.T) {
	for i := range 60 {
		p, a := sample(i)
		s := saturate(t, p, a)
		d := samples.New(i + 1000)
		more := a
		more.Trans = append(slices.Clone(a.Trans), d.Query(p, 2, 3).Trans...)
		b := saturate(t, p, more)
		if ok, e := Follows(p, b.Auto); !ok || e != 0 {
			t.Fatal(e)
		}
		for _, x := range s.Auto.Trans {
			found := false
			for _, y := range b.Auto.Trans {
				if x.From == y.From && x.Sym == y.Sym && x.To == y.To {
					found, _ = weight.Below(p.Space, x.W, y.W)
				}
			}
			if !found {
				t.Fatal(i, x)
			}
		}
	}
}

func TestP15_9(t *testing.T) {
	for i := range 60 {
		p, a := sample(i)
		if s := saturate(t, p, a); s.Auto.States > a.States+len(p.Rules) || wfa.Check(s.Auto) != 0 {
			t.Fatal(i)
		}
	}
}
