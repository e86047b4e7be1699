package steps

import (
	"slices"
	"strings"
	"testing"

	"stackyard/api"
	"stackyard/samples"
	"stackyard/weight"
)

func conf(p int, w ...int) api.Conf { return api.Conf{P: p, W: w} }

func same(c, d api.Conf) bool { return c.P == d.P && slices.Equal(c.W, d.W) }

func small() api.Pds {
	return api.Pds{Space: samples.Spaces()[1], States: 2, Symbols: 3, Rules: []api.Rule{{G: 1, W: []int{2, 1}, F: api.Weight{Cost: 1}}, {G: 2, Q: 1, F: api.Weight{Cost: 2}}, {G: 1, Q: 1, W: []int{0}}}}
}

func TestErrors(t *testing.T) {
	broken := small()
	broken.Rules[0].F.Cost = 99
	for i, c := range []struct {
		p    api.Pds
		c    api.Conf
		want api.Errno
	}{{broken, conf(9), api.ErrWeight}, {small(), conf(2), api.ErrConf}, {small(), conf(-1), api.ErrConf}, {small(), conf(0, 3), api.ErrConf}, {small(), conf(0, -1), api.ErrConf}, {small(), conf(0, make([]int, api.MaxWord+1)...), api.ErrConf}} {
		_, _, e1 := Next(c.p, c.c)
		_, _, e2 := Back(c.p, c.c)
		_, w, at, e3 := Run(c.p, c.c, 99)
		_, e4 := Reach(c.p, c.c, -1, -1)
		for j, e := range []api.Errno{Check(c.p, c.c), e1, e2, e3, e4} {
			if e != c.want || at != 0 || !weight.Same(w, api.Weight{}) {
				t.Error(i, j, e)
			}
		}
	}
}

func TestP12_1(t *testing.T) {
	p := small()
	if Check(p, conf(1, make([]int, api.MaxWord)...)) != 0 || Check(p, conf(0)) != 0 {
		t.Error("Check")
	}
	l, cs, e := Next(p, conf(0, 1, 0))
	if !slices.Equal(l, []int{0, 2}) || !same(cs[0], conf(0, 2, 1, 0)) || !same(cs[1], conf(1, 0, 0)) || e != 0 {
		t.Error(l, cs, e)
	}
	for _, c := range []api.Conf{conf(0), conf(1, 1), conf(0, 0, 1)} {
		if l, cs, e := Next(p, c); len(l)+len(cs) != 0 || e != 0 {
			t.Error(l, cs, e)
		}
	}
	l, cs, e = Back(p, conf(1, 0, 2))
	if !slices.Equal(l, []int{1, 2}) || !same(cs[0], conf(0, 2, 0, 2)) || !same(cs[1], conf(0, 1, 2)) || e != 0 {
		t.Error(l, cs, e)
	}
	if l, cs, e = Back(p, conf(0, 2, 1)); !slices.Equal(l, []int{0}) || !same(cs[0], conf(0, 1)) || e != 0 {
		t.Error(l, cs, e)
	}
	full := slices.Repeat([]int{1}, api.MaxWord)
	if l, cs, e := Next(p, conf(0, full...)); l != nil || cs != nil || e != api.ErrLong {
		t.Error(e)
	}
	if _, cs, e := Next(p, conf(0, full[1:]...)); len(cs[0].W) != api.MaxWord || e != 0 {
		t.Error(e)
	}
	if l, cs, e := Back(p, conf(1, full...)); l != nil || cs != nil || e != api.ErrLong {
		t.Error(e)
	}
	if _, cs, e := Back(p, conf(1, full[1:]...)); len(cs[0].W) != api.MaxWord || e != 0 {
		t.Error(e)
	}
	if _, _, e := Back(p, conf(0, full...)); e != 0 {
		t.Error(e)
	}
}

func TestP12_2(t *testing.T) {
	p := small()
	if c, w, at, e := Run(p, conf(0, 1), 0, 1); !same(c, conf(1, 1)) || w.Cost != 3 || at != 0 || e != 0 {
		t.Error(c, w, at, e)
	}
	if c, w, at, e := Run(p, conf(0, 1)); !same(c, conf(0, 1)) || w.Cost != 0 || at != 0 || e != 0 {
		t.Error(c, w, at, e)
	}
	full := conf(0, slices.Repeat([]int{1}, api.MaxWord)...)
	for _, c := range []struct {
		from api.Conf
		l    []int
		at   int
		want api.Errno
	}{{conf(0, 1), []int{0, 3}, 1, api.ErrRange}, {conf(0, 1), []int{-1, 1}, 0, api.ErrRange}, {conf(0, 1), []int{0, 0, 9}, 1, api.ErrStep}, {conf(0, 1), []int{1}, 0, api.ErrStep}, {conf(0), []int{1}, 0, api.ErrStep}, {conf(1, 1), []int{0}, 0, api.ErrStep}, {full, []int{0}, 0, api.ErrLong}, {full, []int{2, 0}, 1, api.ErrStep}} {
		if d, w, at, e := Run(p, c.from, c.l...); !same(d, conf(0)) || !weight.Same(w, api.Weight{}) || at != c.at || e != c.want {
			t.Error(c.l, at, e)
		}
	}
}

func TestP12_3(t *testing.T) {
	p := small()
	p.Rules = append(p.Rules, api.Rule{Q: 1, P: 1, G: 0, W: []int{0}}, api.Rule{P: 1, G: 1, Q: 0, W: []int{1}})
	l, e := Reach(p, conf(0, 1), 2, 100)
	want := []api.Conf{conf(0, 1), conf(0, 2, 1), conf(1, 0), conf(1, 1)}
	if e != 0 || !slices.EqualFunc(l, want, same) {
		t.Error(l, e)
	}
	if l, e := Reach(p, conf(0, 1), 1000, 4); len(l) != 4 || e != 0 {
		t.Error(l, e)
	}
	if l, e := Reach(p, conf(0, 1), 1000, 3); l != nil || e != api.ErrMany {
		t.Error(l, e)
	}
	if l, e := Reach(p, conf(0, 1), 0, 1); len(l) != 1 || e != 0 {
		t.Error(l, e)
	}
	for _, b := range [][2]int{{-1, 1}, {1001, 1}, {0, 0}, {0, 100001}} {
		if l, e := Reach(p, conf(0, 1), b[0], b[1]); l != nil || e != api.ErrArg {
			t.Error(l, e)
		}
	}
	grow := api.Pds{Space: api.Space{Tag: api.Bool}, States: 1, Symbols: 1, Rules: []api.Rule{{W: make([]int, 5)}}}
	if l, e := Reach(grow, conf(0, 0), 1000, 100000); len(l) != 1001 || e != 0 {
		t.Error(len(l), e)
	}
	if l, e := Reach(grow, conf(0, make([]int, 100)...), 1000, 2000); l != nil || e != api.ErrLong {
		t.Error(len(l), e)
	}
	if l, e := Reach(grow, conf(0, make([]int, 100)...), 1000, 1000); l != nil || e != api.ErrLong && e != api.ErrMany {
		t.Error(len(l), e)
	}
	if l, e := Reach(grow, conf(0, make([]int, 100)...), 1000, 900); l != nil || e != api.ErrMany {
		t.Error(len(l), e)
	}
}

func TestP12_4(t *testing.T) {
	for s, want := range map[string]api.Conf{"0": conf(0), "1 1": conf(1, 1), "2147483647 0 10": conf(2147483647, 0, 10)} {
		if c, at, e := Read(s); !same(c, want) || at != 0 || e != 0 || Text(want) != s {
			t.Error(s, c, at, e)
		}
	}
	for s, want := range map[string]int{"": 0, " ": 0, "x": 0, "-1": 0, "01": 1, "1 ": 2, "1  2": 2, "1 02": 3, "2147483648": 9, "1 99999999999": 11, "1,2": 1, "1 é": 2, "1\n": 1} {
		if c, at, e := Read(s); !same(c, conf(0)) || at != want || e != api.ErrLine {
			t.Error(s, c, at, e)
		}
	}
	if Text(conf(-1, -5, 7)) != "-1 -5 7" {
		t.Error(Text(conf(-1, -5, 7)))
	}
	if c, _, e := Read("0" + strings.Repeat(" 1", 4096)); len(c.W) != 4096 || e != 0 {
		t.Error(e)
	}
	order := []api.Conf{conf(-1, 9, 9), conf(0), conf(0, 1), conf(0, 2), conf(0, 1, 5), conf(0, 2, 0), conf(1)}
	for i, c := range order {
		for j, d := range order {
			if Less(c, d) != (i < j) {
				t.Error(c, d)
			}
		}
	}
}

// confs tells all small configurations.
func confs() []api.Conf {
	var l []api.Conf
	for p := range 2 {
		for _, w := range samples.Words(3, 2) {
			l = append(l, conf(p, w...))
		}
	}
	return l
}

func TestP12_5(t *testing.T) {
	for i := range 40 {
		p := samples.New(i).Pds(samples.Spaces()[0], 2, 2, 6, 3)
		for _, c := range confs() {
			l, ds, _ := Next(p, c)
			for j, d := range ds {
				m, cs, _ := Back(p, d)
				if k := slices.Index(m, l[j]); k < 0 || !same(cs[k], c) {
					t.Fatal(p, c, d)
				}
			}
			l, ds, _ = Back(p, c)
			for j, d := range ds {
				m, cs, _ := Next(p, d)
				if k := slices.Index(m, l[j]); k < 0 || !same(cs[k], c) {
					t.Fatal(p, c, d)
				}
			}
		}
	}
}

func TestP12_6(t *testing.T) {
	for i := range 60 {
		d := samples.New(i)
		s := samples.Spaces()[i%6]
		p := d.Pds(s, 2, 2, 8, 3)
		for _, c := range confs() {
			var l []int
			at := c
			for range 6 {
				n, ds, _ := Next(p, at)
				if len(n) == 0 {
					break
				}
				k := d.Below(len(n))
				l, at = append(l, n[k]), ds[k]
			}
			end, w, _, e := Run(p, c, l...)
			k := d.Below(len(l) + 1)
			mid, v, _, e1 := Run(p, c, l[:k]...)
			last, u, _, e2 := Run(p, mid, l[k:]...)
			vu, _ := weight.Extend(s, v, u)
			if e != 0 || e1 != 0 || e2 != 0 || !same(end, at) || !same(end, last) || !weight.Same(w, vu) {
				t.Fatal(p, c, l)
			}
		}
	}
}

func TestP12_7(t *testing.T) {
	for _, c := range confs() {
		if d, at, e := Read(Text(c)); !same(c, d) || at != 0 || e != 0 {
			t.Error(c, d)
		}
		for _, d := range confs() {
			if same(c, d) == (Less(c, d) || Less(d, c)) || Less(c, d) && Less(d, c) {
				t.Error(c, d)
			}
		}
	}
}

func TestP12_8(t *testing.T) {
	for i := range 40 {
		p := samples.New(i).Pds(samples.Spaces()[0], 2, 2, 5, 3)
		for n := range 4 {
			got, e := Reach(p, conf(0, 1, 0), n, 100000)
			if e != 0 {
				t.Fatal(e)
			}
			ends := map[string]int{}
			var all func(c api.Conf, left int)
			all = func(c api.Conf, left int) {
				ends[Text(c)]++
				_, ds, _ := Next(p, c)
				for _, d := range ds {
					if left > 0 {
						all(d, left-1)
					}
				}
			}
			all(conf(0, 1, 0), n)
			if len(ends) != len(got) {
				t.Fatal(p, n)
			}
			for _, c := range got {
				if ends[Text(c)] == 0 {
					t.Fatal(p, c)
				}
			}
		}
	}
}
