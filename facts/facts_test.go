package facts

import (
	"testing"

	"stackyard/api"
)

// all tells all canonical transformers of n facts, n at most 2.
func all(n int) []api.Facts {
	var l []api.Facts
	top := uint64(1) << n
	count := 1
	for range n {
		count *= int(top)
	}
	for gen := range top {
		for code := range count {
			f := api.Facts{Gen: gen}
			for c, i := code, 0; i < n; i++ {
				f.Rows = append(f.Rows, uint64(c)%top)
				c /= int(top)
			}
			if Check(n, f) == api.OK {
				l = append(l, f)
			}
		}
	}
	return l
}

func bad(t *testing.T, what string, f api.Facts, e, want api.Errno) {
	t.Helper()
	if e != want || f.Gen != 0 || f.Rows != nil {
		t.Error(what, f, e, want)
	}
}

func TestP3_1(t *testing.T) {
	for _, n := range []int{-1, 65, -1 << 63} {
		if Check(n, api.Facts{Gen: 99}) != api.ErrDim {
			t.Error(n)
		}
		f, e := Canon(n, api.Facts{})
		bad(t, "Canon", f, e, api.ErrDim)
		f, e = One(n)
		bad(t, "One", f, e, api.ErrDim)
	}
	for _, x := range []api.Facts{{}, {Rows: []uint64{1}}, {Rows: []uint64{1, 2, 3}}, {Gen: 4, Rows: []uint64{1, 2}}, {Rows: []uint64{1, 4}}} {
		if Check(2, x) != api.ErrFacts {
			t.Error(x)
		}
		f, e := Canon(2, x)
		bad(t, "Canon", f, e, api.ErrFacts)
	}
	x := api.Facts{Gen: 1, Rows: []uint64{3, 2}}
	if Check(2, x) != api.ErrFacts {
		t.Error("not canonical")
	}
	f, e := Canon(2, x)
	if e != 0 || !Same(f, api.Facts{Gen: 1, Rows: []uint64{2, 2}}) || x.Rows[0] != 3 {
		t.Error(f, e, x)
	}
	for n := range 65 {
		f, e := One(n)
		if e != 0 || Check(n, f) != 0 {
			t.Fatal(n, f, e)
		}
		s := uint64(0x9249249249249249) & (1<<n - 1)
		if got, e := Apply(n, f, s); got != s || e != 0 {
			t.Error(n, got, e)
		}
	}
}

func TestP3_2(t *testing.T) {
	for _, b := range [][3]int{{2, -1, 0}, {2, 2, 0}, {2, 0, -3}, {2, 0, 2}, {0, 0, 0}} {
		f, e := Set(b[0], b[1], b[2])
		bad(t, "Set", f, e, api.ErrRange)
	}
	f, e := Set(65, 0, 0)
	bad(t, "Set", f, e, api.ErrDim)
	for n := 1; n <= 4; n++ {
		for x := range n {
			for y := -2; y < n; y++ {
				f, e := Set(n, x, y)
				if e != 0 || Check(n, f) != 0 {
					t.Fatal(n, x, y, f, e)
				}
				for s := range uint64(1) << n {
					want := s &^ (1 << x)
					if y == -1 || y >= 0 && s>>y&1 == 1 {
						want |= 1 << x
					}
					if got, _ := Apply(n, f, s); got != want {
						t.Error(n, x, y, s, got)
					}
				}
			}
		}
	}
}

func TestP3_3(t *testing.T) {
	good, _ := One(2)
	wrong := api.Facts{Rows: []uint64{4, 0}}
	for _, c := range []struct {
		n    int
		a, b api.Facts
		want api.Errno
	}{{65, wrong, good, api.ErrDim}, {2, wrong, good, api.ErrFacts}, {2, good, wrong, api.ErrFacts}} {
		f, e := Combine(c.n, c.a, c.b)
		bad(t, "Combine", f, e, c.want)
		f, e = Extend(c.n, c.a, c.b)
		bad(t, "Extend", f, e, c.want)
		if ok, e := Below(c.n, c.a, c.b); ok || e != c.want {
			t.Error(ok, e)
		}
	}
	if s, e := Apply(2, wrong, 4); s != 0 || e != api.ErrFacts {
		t.Error(s, e)
	}
	if s, e := Apply(2, good, 4); s != 0 || e != api.ErrRange {
		t.Error(s, e)
	}
	for _, a := range all(2) {
		for _, b := range all(2) {
			both, _ := Combine(2, a, b)
			then, _ := Extend(2, a, b)
			if Check(2, both) != 0 || Check(2, then) != 0 {
				t.Fatal(both, then)
			}
			below := true
			for s := range uint64(4) {
				x, _ := Apply(2, a, s)
				y, _ := Apply(2, b, s)
				below = below && x&^y == 0
			}
			if ok, _ := Below(2, a, b); ok != below {
				t.Error(a, b, ok)
			}
		}
	}
}

func TestP3_4(t *testing.T) {
	a := api.Facts{Gen: 1, Rows: []uint64{2}}
	if !Same(a, api.Facts{Gen: 1, Rows: []uint64{2}}) || Same(a, api.Facts{Gen: 2, Rows: []uint64{2}}) || Same(a, api.Facts{Gen: 1, Rows: []uint64{3}}) || Same(a, api.Facts{Gen: 1}) || !Same(api.Facts{}, api.Facts{Rows: []uint64{}}) {
		t.Error("Same")
	}
}

func TestP3_5(t *testing.T) {
	l := all(2)
	one, _ := One(2)
	combine := func(a, b api.Facts) api.Facts { f, _ := Combine(2, a, b); return f }
	extend := func(a, b api.Facts) api.Facts { f, _ := Extend(2, a, b); return f }
	for _, a := range l {
		if !Same(combine(a, a), a) || !Same(extend(a, one), a) || !Same(extend(one, a), a) {
			t.Error(a)
		}
		for _, b := range l {
			if !Same(combine(a, b), combine(b, a)) {
				t.Error(a, b)
			}
			for _, c := range l {
				if !Same(extend(extend(a, b), c), extend(a, extend(b, c))) || !Same(extend(a, combine(b, c)), combine(extend(a, b), extend(a, c))) || !Same(extend(combine(a, b), c), combine(extend(a, c), extend(b, c))) || !Same(combine(a, combine(b, c)), combine(combine(a, b), c)) {
					t.Fatal(a, b, c)
				}
			}
		}
	}
}

func TestP3_6(t *testing.T) {
	for _, a := range all(2) {
		for _, b := range all(2) {
			both, _ := Combine(2, a, b)
			then, _ := Extend(2, a, b)
			for s := range uint64(4) {
				x, _ := Apply(2, a, s)
				y, _ := Apply(2, b, s)
				xy, _ := Apply(2, b, x)
				if got, _ := Apply(2, both, s); got != x|y {
					t.Error(a, b, s)
				}
				if got, _ := Apply(2, then, s); got != xy {
					t.Error(a, b, s)
				}
			}
		}
	}
	f, _ := Set(64, 63, -1)
	g, _ := Set(64, 0, 63)
	h, _ := Extend(64, f, g)
	if s, _ := Apply(64, h, 0); s != 1<<63|1 {
		t.Errorf("%x", s)
	}
}
