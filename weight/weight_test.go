package weight

import (
	"testing"

	"stackyard/api"
	"stackyard/cells"
	"stackyard/facts"
)

func spaces() []api.Space {
	boolean := api.Space{Tag: api.Bool}
	cost := api.Space{Tag: api.Cost, Dim: 5}
	fact := api.Space{Tag: api.FactsTag, Dim: 2}
	cell := api.Space{Tag: api.CellsTag, Dim: 2}
	return []api.Space{boolean, cost, fact, cell,
		{Tag: api.Pair, Parts: []api.Space{cost, fact}}, {Tag: api.Pair, Parts: []api.Space{cell, boolean}},
		{Tag: api.FactsTag}, {Tag: api.CellsTag}, {Tag: api.Cost}}
}

// some tells some weights of a space.
func some(s api.Space) []api.Weight {
	one, _ := One(s)
	zero, _ := Zero(s)
	l := []api.Weight{zero, one}
	switch s.Tag {
	case api.Cost:
		for c := 1; c <= s.Dim; c++ {
			l = append(l, api.Weight{Cost: c})
		}
	case api.FactsTag:
		for x := range s.Dim {
			for y := -2; y < s.Dim; y++ {
				f, _ := facts.Set(s.Dim, x, y)
				l = append(l, api.Weight{Facts: f})
			}
		}
	case api.CellsTag:
		for x := range s.Dim {
			a, _ := cells.Set(s.Dim, x, int64(x)*7-3)
			b, _ := cells.Any(s.Dim, x)
			c, _ := cells.Copy(s.Dim, x, (x+1)%s.Dim)
			d, _ := cells.Both(s.Dim, a, c)
			l = append(l, api.Weight{Cells: a}, api.Weight{Cells: b}, api.Weight{Cells: c}, api.Weight{Cells: d})
		}
	case api.Pair:
		l = nil
		for _, a := range some(s.Parts[0])[:3] {
			for _, b := range some(s.Parts[1])[:2] {
				l = append(l, pair(a, b))
			}
		}
	}
	return l
}

func TestP5_1(t *testing.T) {
	bool0 := api.Space{Tag: api.Bool}
	for _, s := range []api.Space{{}, {Tag: 6}, {Tag: api.Bool, Dim: 1}, {Tag: api.Cost, Dim: -1}, {Tag: api.Cost, Dim: api.MaxCap + 1}, {Tag: api.FactsTag, Dim: 65}, {Tag: api.CellsTag, Dim: 65}, {Tag: api.Cost, Parts: []api.Space{bool0}},
		{Tag: api.Pair}, {Tag: api.Pair, Parts: []api.Space{bool0}}, {Tag: api.Pair, Dim: 1, Parts: []api.Space{bool0, bool0}}, {Tag: api.Pair, Parts: []api.Space{bool0, {Tag: api.Pair, Parts: []api.Space{bool0, bool0}}}}} {
		if Space(s) != api.ErrSpace || Check(s, api.Weight{Cost: 9}) != api.ErrSpace {
			t.Error(s)
		}
		if w, e := One(s); e != api.ErrSpace || !Same(w, api.Weight{}) {
			t.Error(w, e)
		}
		if w, e := Zero(s); e != api.ErrSpace || !Same(w, api.Weight{}) {
			t.Error(w, e)
		}
		if w, e := Read(s, "zero"); e != api.ErrSpace || !Same(w, api.Weight{}) {
			t.Error(w, e)
		}
		if n, e := Height(s); e != api.ErrSpace || n != 0 {
			t.Error(n, e)
		}
	}
	for _, s := range spaces() {
		if Space(s) != 0 {
			t.Error(s)
		}
		for _, w := range some(s) {
			if Check(s, w) != 0 {
				t.Error(s, w)
			}
			w.Cost += 99
			if Check(s, w) != api.ErrWeight {
				t.Error(s, w)
			}
		}
	}
	zero := api.Weight{Zero: true}
	for _, w := range []api.Weight{{Cost: -1}, {Cost: 6}, {Zero: true, Cost: 1}, {Cells: make([]api.Cell, 1)}, {Facts: api.Facts{Gen: 1}}, {Parts: []api.Weight{{}}}, {Zero: true, Parts: []api.Weight{{}}}} {
		if Check(api.Space{Tag: api.Cost, Dim: 5}, w) != api.ErrWeight {
			t.Error(w)
		}
	}
	p := spaces()[4]
	for _, w := range []api.Weight{zero, {}, {Parts: []api.Weight{zero}}, {Zero: true, Parts: []api.Weight{zero, zero}}, {Parts: []api.Weight{zero, zero, zero}}, {Parts: []api.Weight{{}, {}}}} {
		if Check(p, w) != api.ErrWeight {
			t.Error(w)
		}
	}
}

func TestP5_2(t *testing.T) {
	c := api.Space{Tag: api.Cost, Dim: 5}
	two, four := api.Weight{Cost: 2}, api.Weight{Cost: 4}
	if w, e := Combine(c, two, four); w.Cost != 2 || e != 0 {
		t.Error(w, e)
	}
	if w, e := Extend(c, two, four); w.Cost != 5 || e != 0 {
		t.Error(w, e)
	}
	for _, s := range spaces() {
		one, _ := One(s)
		zero, _ := Zero(s)
		if w, e := Combine(s); !Same(w, zero) || e != 0 {
			t.Error(s, w, e)
		}
		if w, e := Extend(s); !Same(w, one) || e != 0 {
			t.Error(s, w, e)
		}
		bad := api.Weight{Cost: -9}
		if w, e := Combine(s, one, bad); !Same(w, api.Weight{}) || e != api.ErrWeight {
			t.Error(s, w, e)
		}
		if w, e := Extend(s, bad, one); !Same(w, api.Weight{}) || e != api.ErrWeight {
			t.Error(s, w, e)
		}
		if ok, e := Below(s, one, bad); ok || e != api.ErrWeight {
			t.Error(s, ok, e)
		}
		for _, a := range some(s) {
			for _, b := range some(s) {
				w, _ := Combine(s, a, b)
				if ok, e := Below(s, a, b); ok != Same(w, b) || e != 0 {
					t.Error(s, a, b, ok)
				}
			}
		}
	}
	p := spaces()[4]
	half := pair(api.Weight{Zero: true}, one(p.Parts[1]))
	other := pair(api.Weight{Cost: 3}, api.Weight{Zero: true})
	nothing, _ := Zero(p)
	if w, _ := Extend(p, half, other); !Same(w, nothing) {
		t.Error(w)
	}
	if w, _ := Combine(p, half, other); !Same(w, pair(api.Weight{Cost: 3}, one(p.Parts[1]))) {
		t.Error(w)
	}
}

func TestP5_3(t *testing.T) {
	for i, want := range []int{1, 6, 7, 9, 13, 10, 1, 1, 1} {
		if n, e := Height(spaces()[i]); n != want || e != 0 {
			t.Error(i, n, e)
		}
	}
}

func TestP5_4(t *testing.T) {
	f, c := spaces()[2], spaces()[3]
	w, e := Read(f, "{0}:{};{1}")
	if s, _ := Text(f, w); e != 0 || s != "{0}:{};{1}" || w.Facts.Gen != 1 || w.Facts.Rows[1] != 2 {
		t.Error(w, e)
	}
	if w, e := Read(c, "{0}+-5;{}*"); e != 0 || w.Cells[0] != (api.Cell{From: 1, Kind: api.CellOne, K: -5}) || w.Cells[1].Kind != api.CellMany {
		t.Error(w, e)
	}
	if s, e := Text(c, api.Weight{}); s != "" || e != api.ErrWeight {
		t.Error(s, e)
	}
	wrong := map[int][]string{
		0: {"", "One", "one ", "zer", "0"},
		1: {"", "-1", "6", "+1", "01", "1 ", "one", "99999999999999999999"},
		2: {"", "{0}:{0};{1}", "{0}:{}", "{0}:{};{1};{}", "{}:{};{2}", "{}{};{1}", ":", "{}:{1,0};{}"},
		3: {"", ".", "{0}+5;{1}*", "{0}+5", "{0}+05;{}", "{0}+-0;{}", "{0}5;{}", "{0}++5;{}", "{2};{}", "{0};{1};", "{0}+;{}", "{0}+9223372036854775808;{}", "0;1"},
		4: {"zero", "[zero|zero", "zero|zero]", "[zero]", "[zero|zero|zero]", "[", "[]", "[1|{}:{};{1}]x"},
		6: {"", "{}", "{}:;", "{0}:"},
		7: {"", "{}", ".."},
		8: {"1", ""},
	}
	for i, l := range wrong {
		for _, s := range l {
			if w, e := Read(spaces()[i], s); e != api.ErrWeight || !Same(w, api.Weight{}) {
				t.Errorf("%d %q: %v, %d", i, s, w, e)
			}
		}
	}
	for i, s := range map[int]string{0: "one", 1: "5", 6: "{}:", 7: ".", 4: "[zero|zero]"} {
		if _, e := Read(spaces()[i], s); e != 0 {
			t.Error(i, s, e)
		}
	}
}

func TestP5_5(t *testing.T) {
	for i, s := range spaces() {
		for j, x := range spaces() {
			if SameSpace(s, x) != (i == j) {
				t.Error(s, x)
			}
		}
		for j, a := range some(s) {
			for k, b := range some(s) {
				x, _ := Text(s, a)
				y, _ := Text(s, b)
				if Same(a, b) != (x == y) {
					t.Error(s, j, k)
				}
			}
		}
	}
	if !Same(api.Weight{}, api.Weight{Cells: []api.Cell{}, Parts: []api.Weight{}}) || Same(api.Weight{Cost: 1}, api.Weight{}) || Same(api.Weight{Parts: []api.Weight{{Cost: 1}}}, api.Weight{Parts: []api.Weight{{}}}) {
		t.Error("Same")
	}
}

func TestP5_6(t *testing.T) {
	for _, s := range spaces() {
		one, _ := One(s)
		zero, _ := Zero(s)
		plus := func(l ...api.Weight) api.Weight { w, _ := Combine(s, l...); return w }
		then := func(l ...api.Weight) api.Weight { w, _ := Extend(s, l...); return w }
		for _, a := range some(s) {
			if !Same(plus(a, a), a) || !Same(plus(a, zero), a) || !Same(then(a, one), a) || !Same(then(one, a), a) || !Same(then(a, zero), zero) || !Same(then(zero, a), zero) {
				t.Error(s, a)
			}
			for _, b := range some(s) {
				for _, c := range some(s) {
					if !Same(plus(a, b, c), plus(c, b, a)) || !Same(then(a, b, c), then(a, then(b, c))) || !Same(then(a, plus(b, c)), plus(then(a, b), then(a, c))) || !Same(then(plus(a, b), c), plus(then(a, c), then(b, c))) {
						t.Fatal(s, a, b, c)
					}
				}
			}
		}
	}
}

func TestP5_7(t *testing.T) {
	for _, s := range spaces() {
		height, _ := Height(s)
		w, _ := Zero(s)
		steps := 0
		for range 4 {
			for _, a := range some(s) {
				for _, b := range some(s) {
					x, _ := Extend(s, a, b)
					next, _ := Combine(s, w, x)
					if !Same(next, w) {
						steps++
						w = next
					}
				}
			}
		}
		if steps > height {
			t.Error(s, steps, height)
		}
	}
	s := spaces()[2]
	w, _ := Zero(s)
	steps := 0
	for _, x := range []api.Facts{{Rows: []uint64{0, 0}}, {Rows: []uint64{1, 0}}, {Rows: []uint64{2, 0}}, {Rows: []uint64{0, 1}}, {Rows: []uint64{0, 2}}, {Gen: 1, Rows: []uint64{0, 0}}, {Gen: 2, Rows: []uint64{0, 0}}} {
		next, _ := Combine(s, w, api.Weight{Facts: x})
		if !Same(next, w) {
			steps++
		}
		w = next
	}
	if steps != 7 {
		t.Error(steps)
	}
}

func TestP5_8(t *testing.T) {
	for _, s := range spaces() {
		for _, a := range some(s) {
			text, _ := Text(s, a)
			if w, e := Read(s, text); !Same(w, a) || e != 0 {
				t.Error(s, text, w, e)
			}
			for _, b := range some(s) {
				ab, _ := Below(s, a, b)
				ba, _ := Below(s, b, a)
				if ab && ba != Same(a, b) {
					t.Error(s, a, b)
				}
				for _, c := range some(s) {
					bc, _ := Below(s, b, c)
					ac, _ := Below(s, a, c)
					if ab && bc && !ac {
						t.Error(s, a, b, c)
					}
				}
			}
		}
	}
}
