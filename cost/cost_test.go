package cost

import (
	"strconv"
	"strings"
	"testing"

	"stackyard/api"
)

func TestP2_1(t *testing.T) {
	for _, limit := range []int{-1, api.MaxCap + 1, -1 << 63, 1<<63 - 1} {
		if Check(limit, -5) != api.ErrCap {
			t.Errorf("Check(%d)", limit)
		}
		if n, e := Least(limit, -5); n != 0 || e != api.ErrCap {
			t.Error(n, e)
		}
		if n, e := Sum(limit); n != 0 || e != api.ErrCap {
			t.Error(n, e)
		}
	}
	for _, c := range []int{-2, 11, -1 << 63, 1<<63 - 1} {
		if Check(10, c) != api.ErrCost {
			t.Errorf("Check(10, %d)", c)
		}
		if n, e := Least(10, 1, c); n != 0 || e != api.ErrCost {
			t.Error(n, e)
		}
		if n, e := Sum(10, -1, c); n != 0 || e != api.ErrCost {
			t.Error(n, e)
		}
	}
	if Check(0, 0) != 0 || Check(10, 10) != 0 || Check(api.MaxCap, api.MaxCap) != 0 || Check(0, -1) != 0 {
		t.Error("Check")
	}
	if n, e := Least(10); n != -1 || e != 0 {
		t.Error(n, e)
	}
	if n, e := Least(10, 3, -1, 7); n != 3 || e != 0 {
		t.Error(n, e)
	}
	if n, e := Sum(10); n != 0 || e != 0 {
		t.Error(n, e)
	}
	if n, e := Sum(10, 7, 8, 0); n != 10 || e != 0 {
		t.Error(n, e)
	}
	if n, e := Sum(10, 7, -1, 8); n != -1 || e != 0 {
		t.Error(n, e)
	}
}

func TestP2_2(t *testing.T) {
	for _, c := range []struct {
		a, b int
		want bool
	}{{3, 3, true}, {3, 4, true}, {4, 3, false}, {-1, 3, false}, {3, -1, true}, {-1, -1, true}} {
		if ok, e := AtMost(10, c.a, c.b); ok != c.want || e != 0 {
			t.Error(c, ok, e)
		}
	}
	if ok, e := AtMost(10, 11, 3); ok || e != api.ErrCost {
		t.Error(ok, e)
	}
	if ok, e := AtMost(-1, 11, 3); ok || e != api.ErrCap {
		t.Error(ok, e)
	}
	for _, limit := range []int{0, 10, api.MaxCap} {
		if n, e := Height(limit); n != limit+1 || e != 0 {
			t.Error(n, e)
		}
	}
	if n, e := Height(-1); n != 0 || e != api.ErrCap {
		t.Error(n, e)
	}
}

func texts(limit int) []string {
	l := []string{"none"}
	for i := range limit + 1 {
		l = append(l, strconv.Itoa(i))
	}
	return l
}

func TestP2_3(t *testing.T) {
	inputs := []string{"", "n", "no", "non", "none", "nones", "nonx", "None", "é", "1é", "-1", "00", "01", "1n", "n1", " 1", "1 ", "\xff"}
	for i := range 200 {
		inputs = append(inputs, strconv.Itoa(i), strconv.Itoa(i)+"x", "0"+strconv.Itoa(i))
	}
	for _, limit := range []int{0, 1, 9, 10, 57, 100} {
		all := texts(limit)
		for _, s := range inputs {
			want := 0
			begins := func(p string) bool {
				for _, x := range all {
					if strings.HasPrefix(x, p) {
						return true
					}
				}
				return false
			}
			for want < len(s) && begins(s[:want+1]) {
				want++
			}
			whole := false
			for i, x := range all {
				if x != s {
					continue
				}
				whole = true
				if n, at, e := Read(limit, s); n != i-1 || at != 0 || e != 0 {
					t.Errorf("Read(%d, %q) = %d, %d, %d", limit, s, n, at, e)
				}
			}
			if n, at, e := Read(limit, s); !whole && (n != 0 || at != want || e != api.ErrText) {
				t.Errorf("Read(%d, %q) = %d, %d, %d; want %d", limit, s, n, at, e, want)
			}
		}
	}
	if n, at, e := Read(api.MaxCap+1, "x"); n != 0 || at != 0 || e != api.ErrCap {
		t.Error(n, at, e)
	}
	if s, e := Text(10, 11); s != "" || e != api.ErrCost {
		t.Error(s, e)
	}
	if s, e := Text(10, -1); s != "none" || e != 0 {
		t.Error(s, e)
	}
}

func TestP2_4(t *testing.T) {
	const limit = 6
	least := func(l ...int) int { n, _ := Least(limit, l...); return n }
	sum := func(l ...int) int { n, _ := Sum(limit, l...); return n }
	for a := -1; a <= limit; a++ {
		if least(a, a) != a || sum(a, -1) != -1 || sum(a, 0) != a || sum(0, a) != a || least(a, -1) != a {
			t.Error(a)
		}
		for b := -1; b <= limit; b++ {
			if least(a, b) != least(b, a) || sum(a, b) != sum(b, a) {
				t.Error(a, b)
			}
			for c := -1; c <= limit; c++ {
				if least(a, b, c) != least(c, least(b, a)) || sum(a, b, c) != sum(a, sum(b, c)) || sum(a, least(b, c)) != least(sum(a, b), sum(a, c)) {
					t.Error(a, b, c)
				}
			}
		}
	}
}

func TestP2_5(t *testing.T) {
	const limit = 5
	most := func(a, b int) bool { ok, _ := AtMost(limit, a, b); return ok }
	sum := func(a, b int) int { n, _ := Sum(limit, a, b); return n }
	for a := -1; a <= limit; a++ {
		for b := -1; b <= limit; b++ {
			if !most(a, b) && !most(b, a) || a != b && most(a, b) && most(b, a) {
				t.Error(a, b)
			}
			for c := -1; c <= limit; c++ {
				if most(a, b) && most(b, c) && !most(a, c) || most(a, b) && !most(sum(a, c), sum(b, c)) {
					t.Error(a, b, c)
				}
			}
		}
	}
}

func TestP2_6(t *testing.T) {
	for _, limit := range []int{0, 10, 1234, api.MaxCap} {
		for c := -1; c <= limit; c += 1 + limit/1000 {
			s, _ := Text(limit, c)
			if n, at, e := Read(limit, s); n != c || at != 0 || e != 0 {
				t.Errorf("Read(%d, %q) = %d, %d, %d", limit, s, n, at, e)
			}
		}
	}
}
