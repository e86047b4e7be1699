package cells

import (
	"testing"

	"stackyard/api"
)

// cellsOf tells all cells of two variables with few constants.
func cellsOf() []api.Cell {
	var l []api.Cell
	for from := range uint64(4) {
		l = append(l, api.Cell{From: from}, api.Cell{From: from, Kind: api.CellOne, K: 3}, api.Cell{From: from, Kind: api.CellOne, K: -4})
	}
	return append(l, api.Cell{Kind: api.CellMany})
}

func rows() [][]api.Cell {
	var l [][]api.Cell
	for _, c := range cellsOf() {
		for _, d := range cellsOf() {
			l = append(l, []api.Cell{c, d})
		}
	}
	return l
}

func say(l []api.Cell) string { s, _ := Text(len(l), l...); return s }

func TestP4_1(t *testing.T) {
	for _, dim := range []int{-1, 65} {
		if Check(dim) != api.ErrVars {
			t.Error(dim)
		}
		if l, e := One(dim); l != nil || e != api.ErrVars {
			t.Error(l, e)
		}
		if s, e := Text(dim, api.Cell{From: 9}); s != "" || e != api.ErrVars {
			t.Error(s, e)
		}
	}
	for _, l := range [][]api.Cell{{}, {{}}, {{}, {}, {}}, {{From: 4}, {}}, {{Kind: 3}, {}}, {{Kind: -1}, {}}, {{K: 1}, {}}, {{Kind: api.CellMany, From: 1}, {}}, {{Kind: api.CellMany, K: 1}, {}}} {
		if Check(2, l...) != api.ErrCells {
			t.Error(l)
		}
	}
	for _, dim := range []int{0, 1, 2, 63, 64} {
		l, e := One(dim)
		if e != 0 || Check(dim, l...) != 0 || len(l) != dim {
			t.Fatal(dim, l, e)
		}
		for i, c := range l {
			if c != (api.Cell{From: 1 << i}) {
				t.Error(i, c)
			}
		}
	}
	if !Same(nil, []api.Cell{}) || Same([]api.Cell{{}}, nil) || Same([]api.Cell{{K: 1}}, []api.Cell{{K: 2}}) || !Same([]api.Cell{{Kind: 9, K: 1}}, []api.Cell{{Kind: 9, K: 1}}) {
		t.Error("Same")
	}
}

func TestP4_2(t *testing.T) {
	one, _ := One(2)
	three, _ := Set(2, 0, 3)
	four, _ := Set(2, 0, 4)
	l, e := Both(2, three, four)
	if say(l) != "*,x1" || e != 0 {
		t.Error(say(l), e)
	}
	l, _ = Both(2, three, one)
	if say(l) != "x0|3,x1" {
		t.Error(say(l))
	}
	l, _ = Both(2, l, four)
	if say(l) != "*,x1" {
		t.Error(say(l))
	}
	for _, c := range cellsOf() {
		for _, d := range cellsOf() {
			got, _ := Both(2, []api.Cell{c, {}}, []api.Cell{d, {}})
			many := c.Kind == api.CellMany || d.Kind == api.CellMany || c.Kind == api.CellOne && d.Kind == api.CellOne && c.K != d.K
			want := api.Cell{Kind: api.CellMany}
			if !many {
				want = api.Cell{From: c.From | d.From, Kind: max(c.Kind, d.Kind), K: c.K}
				if c.Kind == api.CellNone {
					want.K = d.K
				}
			}
			if got[0] != want {
				t.Error(c, d, got)
			}
		}
	}
	if l, e := Both(2, three, nil); l != nil || e != api.ErrCells {
		t.Error(l, e)
	}
	if l, e := Both(65, three, nil); l != nil || e != api.ErrVars {
		t.Error(l, e)
	}
}

func TestP4_3(t *testing.T) {
	three, _ := Set(2, 0, 3)
	cp, _ := Copy(2, 1, 0)
	l, e := Then(2, three, cp)
	if say(l) != "3,3" || e != 0 {
		t.Error(say(l), e)
	}
	anything, _ := Any(2, 0)
	one, _ := One(2)
	b, _ := Both(2, three, one)
	l, _ = Then(2, anything, b)
	if say(l) != "*,x1" {
		t.Error(say(l))
	}
	if l, e := Then(2, nil, cp); l != nil || e != api.ErrCells {
		t.Error(l, e)
	}
	l, _ = Then(2, []api.Cell{{}, {}}, one)
	if say(l) != "-,-" {
		t.Error(say(l))
	}
}

func TestP4_4(t *testing.T) {
	for _, a := range rows() {
		for _, b := range rows()[:40] {
			both, _ := Both(2, a, b)
			if ok, e := Below(2, a, b); ok != Same(both, b) || e != 0 {
				t.Error(a, b, ok)
			}
		}
	}
	if ok, e := Below(2, nil, nil); ok || e != api.ErrCells {
		t.Error(ok, e)
	}
	for dim, want := range map[int]int{0: 0, 1: 3, 2: 8, 64: 64 * 66} {
		if n, e := Height(dim); n != want || e != 0 {
			t.Error(dim, n, e)
		}
	}
	if n, e := Height(65); n != 0 || e != api.ErrVars {
		t.Error(n, e)
	}
}

func TestP4_5(t *testing.T) {
	for _, b := range [][2]int{{-1, 0}, {2, 0}, {0, -1}, {0, 2}, {0, -1 << 63}} {
		if l, e := Copy(2, b[0], b[1]); l != nil || e != api.ErrRange {
			t.Error(b, l, e)
		}
	}
	for _, at := range []int{-1, 2} {
		if l, e := Set(2, at, 0); l != nil || e != api.ErrRange {
			t.Error(l, e)
		}
		if l, e := Any(2, at); l != nil || e != api.ErrRange {
			t.Error(l, e)
		}
		if l, e := Copy(65, at, at); l != nil || e != api.ErrVars {
			t.Error(l, e)
		}
	}
	set, _ := Set(2, 1, 0)
	cp, _ := Copy(2, 0, 1)
	anything, _ := Any(2, 1)
	if say(set) != "x0,0" || say(cp) != "x1,x1" || say(anything) != "x0,*" {
		t.Error(say(set), say(cp), say(anything))
	}
	l, e := Copy(64, 63, 63)
	one, _ := One(64)
	if !Same(l, one) || e != 0 {
		t.Error(l, e)
	}
}

func TestP4_6(t *testing.T) {
	s, e := Text(4, api.Cell{From: 9, Kind: api.CellOne, K: -5}, api.Cell{}, api.Cell{Kind: api.CellMany}, api.Cell{From: 6})
	if s != "x0|x3|-5,-,*,x1|x2" || e != 0 {
		t.Error(s, e)
	}
	if s, e := Text(0); s != "" || e != 0 {
		t.Error(s, e)
	}
	if s, e := Text(1, api.Cell{From: 2}); s != "" || e != api.ErrCells {
		t.Error(s, e)
	}
}

func TestP4_7(t *testing.T) {
	l := rows()
	one, _ := One(2)
	both := func(a, b []api.Cell) []api.Cell { x, _ := Both(2, a, b); return x }
	then := func(a, b []api.Cell) []api.Cell { x, _ := Then(2, a, b); return x }
	for i, a := range l {
		if !Same(both(a, a), a) || !Same(then(a, one), a) || !Same(then(one, a), a) {
			t.Fatal(a)
		}
		for j := range 13 {
			b := l[(i*7+j*13)%len(l)]
			if !Same(both(a, b), both(b, a)) {
				t.Fatal(a, b)
			}
			for k := range 13 {
				c := l[(j*5+k*11+i)%len(l)]
				if !Same(then(then(a, b), c), then(a, then(b, c))) || !Same(both(both(a, b), c), both(a, both(b, c))) || !Same(then(a, both(b, c)), both(then(a, b), then(a, c))) || !Same(then(both(a, b), c), both(then(a, c), then(b, c))) {
					t.Fatal(a, b, c)
				}
			}
		}
	}
}

func TestP4_8(t *testing.T) {
	var values [][]api.Cell
	for _, r := range rows() {
		if r[0].From|r[1].From == 0 {
			values = append(values, r)
		}
	}
	for _, v := range values {
		for _, w := range values {
			below, _ := Below(2, v, w)
			for _, f := range rows() {
				x, _ := Then(2, v, f)
				y, _ := Then(2, w, f)
				if x[0].From|x[1].From != 0 {
					t.Fatal(v, f, x)
				}
				if ok, _ := Below(2, x, y); below && !ok {
					t.Fatal(v, w, f)
				}
			}
		}
	}
}
