package pds

import (
	"slices"
	"strconv"
	"strings"
	"testing"

	"stackyard/api"
	"stackyard/samples"
	"stackyard/weight"
)

func boolean() api.Space { return api.Space{Tag: api.Bool} }

func bad() map[api.Errno][]api.Pds {
	rule := func(r api.Rule) api.Pds {
		return api.Pds{Space: boolean(), States: 2, Symbols: 2, Rules: []api.Rule{r}}
	}
	return map[api.Errno][]api.Pds{
		api.ErrSpace:  {{States: -1, Rules: make([]api.Rule, api.MaxRules+1)}},
		api.ErrMany:   {{Space: boolean(), States: -1, Rules: make([]api.Rule, api.MaxRules+1)}},
		api.ErrPds:    {{Space: boolean(), States: -1}, {Space: boolean(), States: api.MaxStates + 1}, {Space: boolean(), Symbols: -1}, {Space: boolean(), Symbols: api.MaxSymbols + 1}, rule(api.Rule{P: 2}), rule(api.Rule{P: -1}), rule(api.Rule{Q: 2, F: api.Weight{Cost: 1}}), rule(api.Rule{G: 2}), rule(api.Rule{G: -1}), rule(api.Rule{W: []int{0, 2}}), rule(api.Rule{W: make([]int, api.MaxWord+1)})},
		api.ErrWeight: {rule(api.Rule{F: api.Weight{Cost: 1}})},
	}
}

func TestErrors(t *testing.T) {
	for want, l := range bad() {
		for _, p := range l {
			_, e1 := Print(p, api.Names{})
			_, e2 := Top(p, 99, 99)
			_, e3 := Short(p)
			for i, e := range []api.Errno{Check(p), e1, e2, e3} {
				if e != want {
					t.Error(i, e, want)
				}
			}
		}
	}
	if Check(api.Pds{Space: boolean()}) != 0 || Check(api.Pds{Space: boolean(), States: api.MaxStates, Symbols: api.MaxSymbols, Rules: slices.Repeat([]api.Rule{{W: make([]int, api.MaxWord)}}, api.MaxRules)}) != 0 {
		t.Error("at the limit")
	}
}

func small() (api.Pds, api.Names) {
	s := api.Space{Tag: api.Pair, Parts: []api.Space{{Tag: api.Cost, Dim: 7}, {Tag: api.FactsTag, Dim: 1}}}
	f, _ := weight.Read(s, "[3|{0}:{}]")
	p := api.Pds{Space: s, States: 2, Symbols: 3, Rules: []api.Rule{{P: 0, G: 1, Q: 1, W: []int{2, 0, 2}, F: f}, {P: 1, G: 2, Q: 0, F: f}}}
	return p, api.Names{States: []string{"p", "q"}, Symbols: []string{"p", "b", "_9"}}
}

const smallText = "space pair (cost 7) (facts 1)\nstates p q\nsymbols p b _9\np b -> q _9 p _9 : [3|{0}:{}]\nq _9 -> p : [3|{0}:{}]\n"

func TestP11_1(t *testing.T) {
	p, n := small()
	if s, e := Print(p, n); s != smallText || e != 0 {
		t.Error(s, e)
	}
	for _, m := range []api.Names{{}, {States: n.States}, {States: []string{"p", "p"}, Symbols: n.Symbols}, {States: n.States, Symbols: []string{"a", "b", "9"}}, {States: []string{"p", "q", "r"}, Symbols: n.Symbols}} {
		if s, e := Print(p, m); s != "" || e != api.ErrArg {
			t.Error(s, e)
		}
	}
	if s, e := Print(api.Pds{Space: boolean()}, api.Names{}); s != "space bool\nstates\nsymbols\n" || e != 0 {
		t.Error(s, e)
	}
	long := api.Pds{Space: boolean(), States: 1, Symbols: 1, Rules: []api.Rule{{}}}
	names := api.Names{States: []string{"p"}, Symbols: []string{strings.Repeat("a", 64)}}
	for range 16 {
		long.Rules = append(long.Rules, api.Rule{W: make([]int, 1005)})
	}
	s, e := Print(long, names)
	if e != 0 {
		t.Fatal(len(s), e)
	}
	for len(long.Rules[0].W) < (api.MaxText-len(s))/65 {
		long.Rules[0].W = append(long.Rules[0].W, 0)
	}
	s, e = Print(long, names)
	long.States = 2
	left := api.MaxText - len(s)
	if left > 1 && left < 65 && e == 0 {
		names.States = append(names.States, "q"+strings.Repeat("q", left-2))
		if s, e := Print(long, names); len(s) != api.MaxText || e != 0 {
			t.Error(len(s), e)
		} else if q, _, _, e := Read(s); e != 0 || !Same(q, long) {
			t.Error(e)
		}
		names.States[1] += "q"
		if s, e := Print(long, names); s != "" || e != api.ErrLong {
			t.Error(len(s), e)
		}
	} else {
		t.Error(left, e)
	}
	if l, e := Top(p, 0, 1); !slices.Equal(l, []int{0}) || e != 0 {
		t.Error(l, e)
	}
	p.Rules = append(p.Rules, p.Rules[0])
	if l, e := Top(p, 0, 1); !slices.Equal(l, []int{0, 2}) || e != 0 {
		t.Error(l, e)
	}
	for _, b := range [][2]int{{-1, 0}, {2, 0}, {0, -1}, {0, 3}} {
		if l, e := Top(p, b[0], b[1]); l != nil || e != api.ErrRange {
			t.Error(l, e)
		}
	}
}

func TestP11_2(t *testing.T) {
	for s, want := range map[string]int{
		"":                     0,
		"\n":                   0,
		"space\n":              0,
		"space boole\n":        0,
		"space cost\n":         0,
		"space cost 007\n":     0,
		"space cost -1\n":      0,
		"space cost 1048577\n": 0,
		"space facts 65\n":     0,
		"space pair (bool) (pair (bool) (bool))\n":               0,
		"space pair (bool)\n":                                    0,
		" space bool\n":                                          0,
		"space bool \n":                                          0,
		"space bo":                                               0,
		"space bool\n":                                           1,
		"space bool":                                             1,
		"space bool\nstates a a\n":                               1,
		"space bool\nstates 9\n":                                 1,
		"space bool\nstates  a\n":                                1,
		"space bool\nstates a \n":                                1,
		"space bool\nstat":                                       1,
		"space bool\nstates a\n":                                 2,
		"space bool\nstates a":                                   2,
		"space bool\nstates a\nsymbols":                          2,
		"space bool\nstates a\nsymbols b\n\n":                    3,
		"space bool\nstates a\nsymbols b\na b -> a : one":        3,
		"space bool\nstates a\nsymbols b\na b -> a :\n":          3,
		"space bool\nstates a\nsymbols b\na b -> a : 1\n":        3,
		"space bool\nstates a\nsymbols b\na a -> a : one\n":      3,
		"space bool\nstates a\nsymbols b\nb b -> a : one\n":      3,
		"space bool\nstates a\nsymbols b\na b -> b : one\n":      3,
		"space bool\nstates a\nsymbols b\na b -> a b a : one\n":  3,
		"space bool\nstates a\nsymbols b\na b => a : one\n":      3,
		"space bool\nstates a\nsymbols b\na b -> a  : one\n":     3,
		"space bool\nstates a\nsymbols b\na b -> a : one \n":     3,
		"space bool\nstates a\nsymbols b\na b -> a : one\r\n":    3,
		"space bool\nstates a\nsymbols b\na b -> a : one\n# no":  4,
		"space bool\nstates\nsymbols b\na b -> a : one\nx\nx\nx": 3,
	} {
		if p, n, line, e := Read(s); line != want || e != api.ErrLine || !Same(p, api.Pds{}) || n.States != nil || n.Symbols != nil {
			t.Errorf("%q: %d, %d; want %d", s, line, e, want)
		}
	}
	if _, _, line, e := Read(strings.Repeat("x", api.MaxText+1)); line != 0 || e != api.ErrLong {
		t.Error(line, e)
	}
	head := "space bool\nstates a\nsymbols b\n"
	rules := head + strings.Repeat("a b -> a : one\n", api.MaxRules)
	if p, _, line, e := Read(rules); len(p.Rules) != api.MaxRules || line != 0 || e != 0 {
		t.Error(line, e)
	}
	if _, _, line, e := Read(rules + "a b -> a : one\n"); line != 3+api.MaxRules || e != api.ErrLine {
		t.Error(line, e)
	}
	list := strings.Join(names("n", api.MaxSymbols), " ")
	if p, _, line, e := Read("space bool\nstates " + list + "\nsymbols " + list + "\n"); p.States != api.MaxStates || p.Symbols != api.MaxSymbols || line != 0 || e != 0 {
		t.Error(line, e)
	}
	if _, _, line, e := Read("space bool\nstates " + list + " x\n"); line != 1 || e != api.ErrLine {
		t.Error(line, e)
	}
	wide := head + "a b -> a" + strings.Repeat(" b", api.MaxWord)
	if p, _, line, e := Read(wide + " : one\n"); line != 0 || e != 0 || len(p.Rules[0].W) != api.MaxWord {
		t.Error(line, e)
	}
	if _, _, line, e := Read(wide + " b : one\n"); line != 3 || e != api.ErrLine {
		t.Error(line, e)
	}
	p, n, line, e := Read(smallText)
	q, m := small()
	if !Same(p, q) || !slices.Equal(n.States, m.States) || !slices.Equal(n.Symbols, m.Symbols) || line != 0 || e != 0 {
		t.Error(p, n, line, e)
	}
}

func TestP11_3(t *testing.T) {
	s := samples.Spaces()[1]
	p := api.Pds{Space: s, States: 2, Symbols: 5, Rules: []api.Rule{{W: []int{1, 2}, F: api.Weight{Cost: 4}}, {Q: 1, W: []int{2, 3, 4}, F: api.Weight{Cost: 5}}, {W: []int{0, 1, 2, 3, 4}, F: api.Weight{Cost: 6}}}}
	want := []api.Rule{{W: []int{1, 2}, F: api.Weight{Cost: 4}}, {Q: 2, W: []int{5, 4}, F: api.Weight{Cost: 5}}, {P: 2, G: 5, Q: 1, W: []int{2, 3}},
		{Q: 3, W: []int{6, 4}, F: api.Weight{Cost: 6}}, {P: 3, G: 6, Q: 4, W: []int{7, 3}}, {P: 4, G: 7, Q: 5, W: []int{8, 2}}, {P: 5, G: 8, Q: 0, W: []int{0, 1}}}
	x, e := Short(p)
	if e != 0 || !Same(x.Pds, api.Pds{Space: s, States: 6, Symbols: 9, Rules: want}) || !slices.Equal(x.Rule, []int{0, 1, 1, 2, 2, 2, 2}) || !slices.Equal(x.First, []bool{true, true, false, true, false, false, false}) || Check(x.Pds) != 0 {
		t.Error(x, e)
	}
	long := api.Pds{Space: boolean(), States: 1, Symbols: 2, Rules: []api.Rule{{W: make([]int, 4096)}}}
	if x, e := Short(long); e != 0 || x.Pds.Symbols != 4096 || len(x.Rule) != 4095 {
		t.Error(e)
	}
	long.Symbols = 3
	if x, e := Short(long); e != api.ErrMany || x.Rule != nil {
		t.Error(e)
	}
	long.Symbols, long.States = 2, 2
	if x, e := Short(long); e != 0 || x.Pds.States != 4096 {
		t.Error(e)
	}
	long.Symbols, long.States = 1, 3
	if _, e := Short(long); e != api.ErrMany {
		t.Error(e)
	}
	long = api.Pds{Space: boolean(), States: 1, Symbols: 1, Rules: slices.Repeat([]api.Rule{{}}, api.MaxRules-1)}
	long.Rules[7].W = []int{0, 0, 0}
	if _, e := Short(long); e != 0 {
		t.Error(e)
	}
	long.Rules[8].W = []int{0, 0, 0}
	if _, e := Short(long); e != api.ErrMany {
		t.Error(e)
	}
}

func TestP11_4(t *testing.T) {
	s := api.Shorted{Pds: api.Pds{Rules: make([]api.Rule, 5)}, Rule: []int{7, 8, 8, 8, 9}, First: []bool{true, true, false, false, true}}
	for _, c := range []struct {
		run, want []int
		e         api.Errno
	}{{nil, nil, 0}, {[]int{0}, []int{7}, 0}, {[]int{0, 1, 2, 3, 4, 0}, []int{7, 8, 9, 7}, 0}, {[]int{5, 2}, nil, api.ErrRange}, {[]int{-1}, nil, api.ErrRange}, {[]int{2}, nil, api.ErrRun}, {[]int{1, 3}, nil, api.ErrRun}, {[]int{1, 2}, nil, api.ErrRun}, {[]int{1, 2, 0}, nil, api.ErrRun}, {[]int{0, 2}, nil, api.ErrRun}, {[]int{0, 1, 1, 2, 3}, nil, api.ErrRun}} {
		if l, e := Long(s, c.run...); !slices.Equal(l, c.want) || e != c.e {
			t.Error(c, l, e)
		}
	}
	for _, x := range []api.Shorted{{Rule: []int{1}}, {First: []bool{true}}, {Pds: api.Pds{Rules: make([]api.Rule, 1)}}} {
		if l, e := Long(x, 99); l != nil || e != api.ErrArg {
			t.Error(l, e)
		}
	}
}

func TestP11_5(t *testing.T) {
	p, _ := small()
	q, _ := small()
	if !Same(p, q) || !Same(api.Pds{}, api.Pds{Rules: []api.Rule{}}) {
		t.Error("Same")
	}
	for i := range 6 {
		q, _ := small()
		switch i {
		case 0:
			q.Space.Parts[0].Dim = 8
		case 1:
			q.States++
		case 2:
			q.Symbols++
		case 3:
			q.Rules[0].W[1] = 1
		case 4:
			q.Rules[1].F.Parts[0].Cost = 1
		case 5:
			q.Rules[0].Q = 0
		}
		if Same(p, q) {
			t.Error(i)
		}
	}
}

func names(word string, n int) []string {
	var l []string
	for i := range n {
		l = append(l, word+strconv.Itoa(i))
	}
	return l
}

func TestP11_6(t *testing.T) {
	for i := range 60 {
		p := samples.New(i).Pds(samples.Spaces()[i%6], 2, 3, 6, 4)
		n := api.Names{States: names("p", 2), Symbols: names("g", 3)}
		s, e := Print(p, n)
		q, m, line, e2 := Read(s)
		if e != 0 || e2 != 0 || line != 0 || !Same(p, q) || !slices.Equal(n.States, m.States) || !slices.Equal(n.Symbols, m.Symbols) {
			t.Error(s, e, e2)
		}
	}
}

// apply is what a rule makes of a configuration.
func apply(r api.Rule, c api.Conf) (api.Conf, bool) {
	if len(c.W) == 0 || r.P != c.P || r.G != c.W[0] {
		return api.Conf{}, false
	}
	return api.Conf{P: r.Q, W: slices.Concat(r.W, c.W[1:])}, true
}

func TestP11_7(t *testing.T) {
	for i := range 60 {
		p := samples.New(i).Pds(samples.Spaces()[i%6], 2, 3, 6, 5)
		x, _ := Short(p)
		for _, w := range samples.Words(2, 3) {
			for state := range 2 {
				c := api.Conf{P: state, W: w}
				for k, r := range p.Rules {
					want, ok := apply(r, c)
					got, f, applied, at := c, []api.Weight{}, true, []int{}
					for j, q := range x.Pds.Rules {
						if x.Rule[j] == k && applied {
							got, applied = apply(q, got)
							f, at = append(f, q.F), append(at, j)
						}
					}
					sum, _ := weight.Extend(p.Space, f...)
					l, e := Long(x, at...)
					if applied != ok || ok && (want.P != got.P || !slices.Equal(want.W, got.W) || !weight.Same(sum, r.F) || !slices.Equal(l, []int{k}) || e != 0) {
						t.Fatal(p, c, k)
					}
				}
			}
		}
	}
}
