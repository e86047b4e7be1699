package bits

import (
	"slices"
	"strconv"
	"testing"

	"stackyard/api"
)

func samples() []uint64 {
	l := []uint64{0, 1, 2, 3, 9, 1 << 63, 1<<64 - 1, 0xf0, 0x5555555555555555, 1<<63 | 1}
	x := uint64(88172645463325252)
	for range 200 {
		x ^= x << 13
		x ^= x >> 7
		x ^= x << 17
		l = append(l, x, x&(x>>9)&(x<<5))
	}
	return l
}

func TestP1_1(t *testing.T) {
	for n := -2; n <= 66; n++ {
		s, e := Full(n)
		if n < 0 || n > 64 {
			if s != 0 || e != api.ErrBit {
				t.Errorf("Full(%d) = %d, %d", n, s, e)
			}
			continue
		}
		if e != 0 || Count(s) != n || n > 0 && s>>(n-1) != 1 {
			t.Errorf("Full(%d) = %x, %d", n, s, e)
		}
	}
	if s, e := Of(0, 3, 3); s != 9 || e != 0 {
		t.Error(s, e)
	}
	if s, e := Of(); s != 0 || e != 0 {
		t.Error(s, e)
	}
	for _, bad := range []int{-1, 64, -1 << 63, 1<<63 - 1} {
		if s, e := Of(1, bad); s != 0 || e != api.ErrBit {
			t.Errorf("Of(1, %d) = %d, %d", bad, s, e)
		}
	}
	if l := List(1<<63 | 5); !slices.Equal(l, []int{0, 2, 63}) {
		t.Error(l)
	}
}

func TestP1_2(t *testing.T) {
	for _, s := range samples() {
		l := List(s)
		if Count(s) != len(l) {
			t.Errorf("Count(%x)", s)
		}
		for i := -3; i < 70; i++ {
			if Has(s, i) != slices.Contains(l, i) {
				t.Errorf("Has(%x, %d)", s, i)
			}
			want, found := 0, false
			for _, j := range l {
				if j >= i {
					want, found = j, true
					break
				}
			}
			if n, ok := Next(s, i); n != want || ok != found {
				t.Errorf("Next(%x, %d) = %d, %v", s, i, n, ok)
			}
		}
	}
	if Has(1, -1<<63) || Has(1, 1<<63-1) {
		t.Error("Has")
	}
	if n, ok := Next(6, 1<<63-1); n != 0 || ok {
		t.Error(n, ok)
	}
}

func TestP1_3(t *testing.T) {
	for _, s := range samples() {
		for _, by := range []int{-64, -63, -5, -1, 0, 1, 7, 63, 64} {
			for _, n := range []int{0, 1, 4, 63, 64} {
				var want uint64
				for _, i := range List(s) {
					if i+by >= 0 && i+by < n {
						want |= 1 << (i + by)
					}
				}
				if m, e := Move(s, by, n); m != want || e != 0 {
					t.Errorf("Move(%x, %d, %d) = %x", s, by, n, m)
				}
			}
		}
	}
	for _, b := range [][2]int{{65, 4}, {-65, 4}, {0, -1}, {0, 65}} {
		if m, e := Move(9, b[0], b[1]); m != 0 || e != api.ErrBit {
			t.Error(b, m, e)
		}
	}
	for _, f := range []struct {
		s     uint64
		at, n int
		want  int64
	}{{0xf0, 4, 4, -1}, {0x70, 4, 4, 7}, {1 << 63, 0, 64, -1 << 63}, {1 << 63, 63, 1, -1}, {0x80, 0, 9, 128}, {5, 1, 1, 0}} {
		if n, e := Field(f.s, f.at, f.n); n != f.want || e != 0 {
			t.Error(f, n, e)
		}
	}
	for _, b := range [][2]int{{0, 0}, {0, 65}, {-1, 4}, {61, 4}, {64, 1}, {1<<63 - 1, 4}} {
		if n, e := Field(1, b[0], b[1]); n != 0 || e != api.ErrBit {
			t.Error(b, n, e)
		}
	}
}

// begins tells whether a Text begins so, by trying all sets of at most three whose ends may matter.
func begins(s string, texts []string) bool {
	i, ok := slices.BinarySearch(texts, s)
	return ok || i < len(texts) && len(texts[i]) >= len(s) && texts[i][:len(s)] == s
}

func TestP1_4(t *testing.T) {
	var texts []string
	for i := range 64 {
		texts = append(texts, Text(1<<i))
		for j := range i {
			texts = append(texts, Text(1<<i|1<<j))
			for k := range j {
				texts = append(texts, Text(1<<i|1<<j|1<<k))
			}
		}
	}
	texts = append(texts, "{}")
	slices.Sort(texts)
	for i := range 100 {
		for _, s := range []string{"{" + strconv.Itoa(i), "{5," + strconv.Itoa(i), "{62," + strconv.Itoa(i), "{1,1" + strconv.Itoa(i)} {
			for _, end := range []string{"", "}", ",", "}}", "x", "\x00", "é"} {
				in := s + end
				want := 0
				for want < len(in) && begins(in[:want+1], texts) {
					want++
				}
				if _, ok := slices.BinarySearch(texts, in); ok {
					continue
				}
				if got, at, e := Read(in); got != 0 || at != want || e != api.ErrBitText {
					t.Errorf("Read(%q) = %d, %d, %d, want place %d", in, got, at, e, want)
				}
			}
		}
	}
	for s, want := range map[string]int{"": 0, "x": 0, "5": 0, "{}5": 2, "{:}": 1, "{1:": 2, "{/": 1, "{": 1, "{,": 1, "{0,": 3, "{3,0}": 3, "{64}": 2, "{01}": 2, "{}x": 2, "{63,": 3, "{62,6": 5} {
		if got, at, e := Read(s); got != 0 || at != want || e != api.ErrBitText {
			t.Errorf("Read(%q) = %d, %d, %d", s, got, at, e)
		}
	}
}

func TestP1_5(t *testing.T) {
	for _, s := range samples() {
		if b, e := Of(List(s)...); b != s || e != 0 {
			t.Errorf("Of List of %x", s)
		}
		if b, at, e := Read(Text(s)); b != s || at != 0 || e != 0 {
			t.Errorf("Read Text of %x: %x, %d, %d", s, b, at, e)
		}
	}
}

func TestP1_6(t *testing.T) {
	for _, s := range samples() {
		for by := range 65 {
			there, _ := Move(s, by, 64)
			back, _ := Move(there, -by, 64)
			left, _ := Full(64 - by)
			if back != s&left {
				t.Errorf("%x by %d and back: %x", s, by, back)
			}
		}
	}
}
