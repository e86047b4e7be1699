package pre

import (
	"slices"
	"testing"

	"stackyard/api"
	"stackyard/limit"
	"stackyard/query"
	"stackyard/samples"
	"stackyard/weight"
	"stackyard/wfa"
)

// sample is a system, with longer rules for some, and a query of it.
func sample(i int) (api.Pds, api.Auto) {
	d := samples.New(i)
	p := d.Pds(samples.Spaces()[i%6], 2, 2, 3+i%4, 1+i%5)
	return p, d.Query(p, 2, 5)
}

func saturate(t *testing.T, p api.Pds, a api.Auto, picks ...int) api.Saturated {
	t.Helper()
	s, e := Make(p, a, 1<<40, picks...)
	if e != 0 {
		t.Fatal(e)
	}
	return s
}

// byDefinition saturates by adding all that follows, path by path, over and over.
func byDefinition(p api.Pds, a api.Auto) api.Auto {
	b, _ := wfa.Canon(a)
	for {
		c := b
		c.Trans = slices.Clone(b.Trans)
		for _, r := range p.Rules {
			var walk func(at, k int, w api.Weight)
			walk = func(at, k int, w api.Weight) {
				if k == len(r.W) {
					c.Trans = append(c.Trans, api.Trans{From: r.P, Sym: r.G, To: at, W: w})
					return
				}
				for _, x := range b.Trans {
					if x.From == at && x.Sym == r.W[k] {
						v, _ := weight.Extend(p.Space, w, x.W)
						walk(x.To, k+1, v)
					}
				}
			}
			walk(r.Q, 0, r.F)
		}
		c, _ = wfa.Canon(c)
		if wfa.Same(b, c) {
			return b
		}
		b = c
	}
}

// chapter12 is the example's system and query.
func chapter12() (api.Pds, api.Auto) {
	p := api.Pds{Space: api.Space{Tag: api.Cost, Dim: 9}, States: 2, Symbols: 3, Rules: []api.Rule{{G: 1, W: []int{2, 1}, F: api.Weight{Cost: 1}}, {G: 2, Q: 1, F: api.Weight{Cost: 1}}}}
	a, _ := query.One(p, api.Conf{P: 1, W: []int{1}})
	return p, a
}

func TestErrors(t *testing.T) {
	p, a := chapter12()
	none := a
	none.Trans = []api.Trans{{Sym: -1, To: 2}}
	for i, c := range []struct {
		p    api.Pds
		a    api.Auto
		want api.Errno
	}{{api.Pds{}, none, api.ErrSpace}, {p, api.Auto{}, api.ErrSpace}, {p, none, api.ErrQuery}} {
		n, e1 := Bound(c.p, c.a)
		s, e2 := Make(c.p, c.a, -1)
		ok, at, e3 := Right(c.p, c.a, api.Saturated{})
		holds, e4 := Follows(c.p, c.a)
		for j, e := range []api.Errno{e1, e2, e3, e4} {
			if e != c.want || n != 0 || s.Log != nil || ok || at != 0 || holds {
				t.Error(i, j, e)
			}
		}
	}
	if s, e := Make(p, api.Auto{Space: p.Space, States: 2, Symbols: 3}, 1); e != 0 || len(s.Log) != 1 {
		t.Error(len(s.Log), e)
	}
	if s, e := Make(api.Pds{Space: p.Space}, api.Auto{Space: p.Space}, 0); e != 0 || len(s.Log) != 0 {
		t.Error(len(s.Log), e)
	}
	if ok, e := Follows(p, api.Auto{Space: p.Space, States: 2, Symbols: 3, Trans: []api.Trans{{Sym: 2, To: 1}}}); !ok || e != 0 {
		t.Error(ok, e)
	}
	into := a
	into.Trans = []api.Trans{{Sym: 1, To: 1}}
	if _, e := Bound(p, into); e != api.ErrQuery {
		t.Error(e)
	}
	if _, e := Follows(p, into); e != 0 {
		t.Error(e)
	}
	for _, b := range []api.Auto{{Space: api.Space{Tag: api.Bool}, States: 3, Symbols: 3}, {Space: p.Space, States: 3, Symbols: 2}, {Space: p.Space, States: 1, Symbols: 3}} {
		if ok, e := Follows(p, b); ok || e != api.ErrQuery {
			t.Error(e)
		}
	}
	if ok, at, e := Right(p, a, api.Saturated{}); ok || at != 0 || e != api.ErrSpace {
		t.Error(e)
	}
}

func TestP16_1(t *testing.T) {
	p, a := chapter12()
	a.Trans = append(a.Trans, a.Trans[0])
	if n, e := Bound(p, a); n != 2*3*3*11+2 || e != 0 {
		t.Error(n, e)
	}
	for i := range 60 {
		p, a := sample(i)
		n, e := Bound(p, a)
		if s := saturate(t, p, a); len(s.Log) > n || e != 0 {
			t.Error(i, n, e)
		}
	}
}

func sameCause(c, d api.Cause) bool {
	return c.From == d.From && c.Sym == d.Sym && c.To == d.To && c.Rule == d.Rule && slices.Equal(c.Parts, d.Parts)
}

func TestP16_2(t *testing.T) {
	p, a := chapter12()
	s := saturate(t, p, a)
	if v, _ := wfa.Value(s.Auto, false, 0, 2, 1); v.Cost != 1 || v.Zero {
		t.Error(v)
	}
	if v, _ := wfa.Value(s.Auto, false, 0, 1); v.Cost != 2 || v.Zero {
		t.Error(v)
	}
	if s, e := Make(p, a, -1); e != api.ErrArg || s.Log != nil {
		t.Error(e)
	}
	for i := range 150 {
		p, a := sample(i)
		s := saturate(t, p, a, i, -i, 7)
		if ok, at, e := Right(p, a, s); !ok || at != 0 || e != 0 {
			t.Fatal(i, ok, at, e)
		}
		if !wfa.Same(s.Auto, byDefinition(p, a)) {
			t.Fatal(i)
		}
		if x, e := Make(p, a, len(s.Log)-1, i, -i, 7); len(s.Log) > 0 && (e != api.ErrFuel || x.Log != nil || x.Auto.States != 0) {
			t.Fatal(i, e)
		}
		again, e := Make(p, a, len(s.Log), i, -i, 7)
		if e != 0 || !slices.EqualFunc(again.Log, s.Log, sameCause) {
			t.Fatal(i, e)
		}
	}
}

// TestLong: a rule with very many paths, and one with as many symbols as may be.
func TestLong(t *testing.T) {
	s := api.Space{Tag: api.Cost, Dim: 100}
	p := api.Pds{Space: s, States: 1, Symbols: 2, Rules: []api.Rule{{G: 1, W: make([]int, 60), F: api.Weight{Cost: 1}}}}
	a := api.Auto{Space: s, States: 4, Symbols: 2, Final: []int{3}}
	for from := range 3 {
		for to := 1; to < 4; to++ {
			a.Trans = append(a.Trans, api.Trans{From: from, To: to, W: api.Weight{Cost: (from + to) % 3}})
		}
	}
	x := saturate(t, p, a)
	if ok, at, e := Right(p, a, x); !ok || e != 0 {
		t.Error(at, e)
	}
	if ok, e := Follows(p, x.Auto); !ok || e != 0 {
		t.Error(ok, e)
	}
	p.Rules[0].W = make([]int, api.MaxWord)
	p.Rules[0].W[api.MaxWord-1] = 1
	a.Trans = append(a.Trans, api.Trans{From: 2, Sym: 1, To: 3, W: api.Weight{Cost: 7}})
	x = saturate(t, p, a)
	if ok, at, e := Right(p, a, x); !ok || e != 0 {
		t.Error(at, e)
	}
	if v, _ := wfa.Value(x.Auto, false, 0, 1); v.Cost != 10 {
		t.Error(v)
	}
}

func TestP16_3(t *testing.T) {
	for i := range 60 {
		p, a := sample(i)
		s := saturate(t, p, a)
		if ok, e := Follows(p, s.Auto); !ok || e != 0 {
			t.Fatal(i, ok, e)
		}
		given, _ := wfa.Canon(a)
		for k, y := range s.Auto.Trans {
			b := s.Auto
			b.Trans = slices.Delete(slices.Clone(b.Trans), k, k+1)
			isGiven := slices.ContainsFunc(given.Trans, func(x api.Trans) bool { return x.From == y.From && x.Sym == y.Sym && x.To == y.To })
			if ok, e := Follows(p, b); !isGiven && ok || e != 0 {
				t.Fatal(i, k, ok, e)
			}
		}
	}
}

func TestP16_4(t *testing.T) {
	alike, all := 0, 0
	for i := range 90 {
		p, a := sample(i)
		s := saturate(t, p, a)
		for c := range 2 {
			for _, w := range samples.Words(2, 2) {
				v, _ := wfa.Value(s.Auto, false, c, w...)
				x, e := limit.Pre(p, a, api.Conf{P: c, W: w}, 8)
				if e != 0 {
					continue
				}
				if ok, _ := weight.Below(p.Space, x, v); !ok {
					t.Fatal(i, c, w, x, v)
				}
				all++
				if weight.Same(x, v) {
					alike++
				}
			}
		}
	}
	if alike*100 < all*95 {
		t.Error(alike, all)
	}
}

func TestP16_5(t *testing.T) {
	for i := range 60 {
		p, a := sample(i)
		s := saturate(t, p, a)
		for k := range 5 {
			if x := saturate(t, p, a, k*31, -k*17, -1<<63, 1<<63-1, k); !wfa.Same(s.Auto, x.Auto) {
				t.Fatal(i, k)
			}
		}
	}
}

func TestP16_6(t *testing.T) {
	for i := range 60 {
		p, a := sample(i)
		s := saturate(t, p, a)
		more := a
		more.Trans = append(slices.Clone(a.Trans), samples.New(i+1000).Query(p, 2, 3).Trans...)
		b := saturate(t, p, more)
		for _, x := range s.Auto.Trans {
			found := false
			for _, y := range b.Auto.Trans {
				if x.From == y.From && x.Sym == y.Sym && x.To == y.To {
					found, _ = weight.Below(p.Space, x.W, y.W)
				}
			}
			if !found {
				t.Fatal(i, x)
			}
		}
	}
}

func clone(s api.Saturated) api.Saturated {
	s.Auto.Trans = slices.Clone(s.Auto.Trans)
	s.Log = slices.Clone(s.Log)
	for i := range s.Log {
		s.Log[i].Parts = slices.Clone(s.Log[i].Parts)
	}
	return s
}

func TestP16_7(t *testing.T) {
	p, a := chapter12()
	s := saturate(t, p, a)
	n := len(s.Log)
	if n != 3 || s.Log[1].Rule != 1 || s.Log[2].Rule != 0 {
		t.Fatal(s.Log)
	}
	for i, c := range []struct {
		at     int
		change func(s *api.Saturated)
	}{
		{0, func(s *api.Saturated) { s.Log = nil }},
		{0, func(s *api.Saturated) { s.Log[0].Rule = 0 }},
		{0, func(s *api.Saturated) { s.Log[0].Parts = []int{0} }},
		{0, func(s *api.Saturated) { s.Log[0].From = 0 }},
		{1, func(s *api.Saturated) { s.Log[1].Rule = len(p.Rules) }},
		{2, func(s *api.Saturated) { s.Log[2].Parts[0] = 0 }},
		{2, func(s *api.Saturated) { s.Log[2].Parts[1] = 1 }},
		{1, func(s *api.Saturated) { s.Log[1].Rule = -1 }},
		{1, func(s *api.Saturated) { s.Log[1].Parts = []int{0} }},
		{1, func(s *api.Saturated) { s.Log[1].To = 2 }},
		{1, func(s *api.Saturated) { s.Log[1].Sym = 1 }},
		{2, func(s *api.Saturated) { s.Log[2].Parts[0] = 2 }},
		{2, func(s *api.Saturated) { s.Log[2].Parts = s.Log[2].Parts[:1] }},
		{2, func(s *api.Saturated) { s.Log[2].Parts[0], s.Log[2].Parts[1] = s.Log[2].Parts[1], s.Log[2].Parts[0] }},
		{2, func(s *api.Saturated) { s.Log = slices.Insert(s.Log, 1, s.Log[1]) }},
		{n, func(s *api.Saturated) { s.Log = append(s.Log, s.Log[2]) }},
		{n, func(s *api.Saturated) { s.Auto.States++ }},
		{n, func(s *api.Saturated) { s.Auto.Symbols++ }},
		{n, func(s *api.Saturated) { s.Auto.Final = nil }},
		{n, func(s *api.Saturated) { s.Auto.Trans = s.Auto.Trans[1:] }},
		{n, func(s *api.Saturated) { s.Auto.Trans[0].W.Cost++ }},
		{n, func(s *api.Saturated) { s.Auto.Trans = append(s.Auto.Trans, api.Trans{From: 2, To: 2}) }},
		{n - 1, func(s *api.Saturated) { s.Log = s.Log[:n-1] }},
	} {
		x := clone(s)
		c.change(&x)
		if ok, at, e := Right(p, a, x); ok || at != c.at || e != 0 {
			t.Error(i, ok, at, e, "want", c.at)
		}
	}
}

// TestPaths: a cause's Parts are a path by the rule's very symbols.
func TestPaths(t *testing.T) {
	boolean := api.Space{Tag: api.Bool}
	p := api.Pds{Space: boolean, States: 1, Symbols: 3, Rules: []api.Rule{{W: []int{1, 2}}}}
	a := api.Auto{Space: boolean, States: 3, Symbols: 3, Final: []int{2}, Trans: []api.Trans{{Sym: 1, To: 1}, {Sym: 2, To: 1}, {From: 1, Sym: 1, To: 2}, {From: 1, Sym: 2, To: 2}, {From: 2, Sym: 2, To: 2}}}
	s := saturate(t, p, a)
	if len(s.Log) != 6 || !slices.Equal(s.Log[5].Parts, []int{0, 3}) {
		t.Fatal(s.Log)
	}
	for _, parts := range [][]int{{1, 3}, {0, 2}, {0, 4}, {2, 3}, {3, 3}} {
		x := clone(s)
		x.Log[5].Parts = parts
		if ok, at, e := Right(p, a, x); ok || at != 5 || e != 0 {
			t.Error(parts, ok, at, e)
		}
	}
}
