package consts

import (
	"slices"
	"strings"
	"testing"

	"stackyard/api"
	"stackyard/frames"
	"stackyard/graph"
	"stackyard/regex"
	"stackyard/samples"
	"stackyard/syntax"
)

func build(t *testing.T, s string) api.Graph {
	t.Helper()
	p, line, col, e := syntax.Parse(s)
	if e != 0 {
		t.Fatal(s, line, col, e)
	}
	g, spot, e := graph.Make(p)
	if e != 0 {
		t.Fatal(s, spot, e)
	}
	return g
}

func parse(s string) api.Regex {
	r, _, _ := regex.Parse(s)
	return r
}

func analyse(t *testing.T, g api.Graph, picks ...int) *Consts {
	t.Helper()
	c, e := Make(g, 1<<40, picks...)
	if e != 0 {
		t.Fatal(e)
	}
	return c
}

const example = `var x; proc main { x = 1; call f from a; x = 2; call f from b; } proc f { at p; }`

var programs = []string{
	example,
	`var x, y; proc main { x = 3; loop { y = x; call f from a; } } proc f { either { x = y; } or { x = 3; y = 4; } }`,
	`var x, y, z; proc main { x = *; y = x; z = 7; call f from a; z = y; } proc f { either { call f from r; } or { y = 5; } return; skip; }`,
	`var x, y; proc main { either { x = 1; call f from a; } or { x = 2; call f from b; } y = x; } proc f { y = x; call g from c; x = y; } proc g { x = *; return; call g from d; }`,
	`var x; proc main { call f from a; x = 9; } proc f { call f from b; x = 1; }`,
}

func TestP25_1(t *testing.T) {
	g := build(t, example)
	c := analyse(t, g)
	n := c.Causes()
	if n < 5 {
		t.Error(n)
	}
	if d, e := Make(g, n); e != 0 || d.Causes() != n {
		t.Error(e)
	}
	for _, x := range []struct {
		g    api.Graph
		fuel int
		want api.Errno
	}{{api.Graph{}, -1, api.ErrGraph}, {g, -1, api.ErrArg}, {g, n - 1, api.ErrFuel}, {g, 0, api.ErrFuel}} {
		if d, e := Make(x.g, x.fuel); e != x.want || d != nil {
			t.Error(e, x.want)
		}
	}
	for _, picks := range [][]int{{3, 1, 4}, {-1 << 63, 7}} {
		d := analyse(t, g, picks...)
		if _, e := Make(g, d.Causes(), picks...); e != 0 {
			t.Error(e)
		}
		k, _ := d.At(g.Points[0].Node, parse("b"), 0)
		if k != (api.Known{Reached: true, Is: true, K: 2}) {
			t.Error(k)
		}
	}
	for _, none := range []*Consts{nil, {}} {
		k, e1 := none.At(-1, api.Regex{}, -1)
		l, e2 := none.All(-1, api.Regex{})
		d, e3 := none.Dead()
		f, e4 := none.Folds()
		for _, e := range []api.Errno{e1, e2, e3, e4} {
			if e != api.ErrNil || k != (api.Known{}) || l != nil || d != nil || f != nil || none.Causes() != 0 {
				t.Error(e)
			}
		}
	}
	huge := build(t, "proc main { either { } "+strings.Repeat("or { } ", 16500)+"}")
	if c, e := Make(huge, 1<<40); e != api.ErrMany || c != nil {
		t.Error(e)
	}
}

func TestP25_2(t *testing.T) {
	g := build(t, example)
	c := analyse(t, g)
	p := g.Points[0].Node
	for s, want := range map[string]api.Known{"a": {Reached: true, Is: true, K: 1}, "b": {Reached: true, Is: true, K: 2}, ".": {Reached: true}, "a b": {}, "%": {}, "#": {}} {
		for range 2 {
			if k, e := c.At(p, parse(s), 0); k != want || e != 0 {
				t.Error(s, k, e)
			}
			if l, e := c.All(p, parse(s)); !slices.Equal(l, []api.Known{want}) || e != 0 {
				t.Error(s, l, e)
			}
		}
	}
	for _, b := range [][2]int{{-1, 0}, {len(g.Of), 0}, {0, -1}, {0, 1}} {
		if k, e := c.At(b[0], api.Regex{}, b[1]); e != api.ErrRange || k != (api.Known{}) {
			t.Error(b, e)
		}
	}
	for _, n := range []int{-1, len(g.Of)} {
		if l, e := c.All(n, api.Regex{}); e != api.ErrRange || l != nil {
			t.Error(e)
		}
	}
	if k, e := c.At(p, api.Regex{}, 0); e != api.ErrRegex || k != (api.Known{}) {
		t.Error(e)
	}
	if l, e := c.All(p, parse("zzz")); e != api.ErrName || l != nil {
		t.Error(e)
	}
	none := analyse(t, build(t, "proc main { at p; }"))
	if l, e := none.All(0, parse("%")); len(l) != 0 || e != 0 {
		t.Error(l, e)
	}
	big := build(t, "proc main { call f from a; "+strings.Repeat("skip; ", 4080)+"} proc f { }")
	c = analyse(t, big)
	if _, e := c.All(0, parse("a a a a a a")); e != 0 {
		t.Error(e)
	}
	if l, e := c.All(0, parse("a"+strings.Repeat(" a", 12))); e != api.ErrMany || l != nil {
		t.Error(e)
	}
	if d, e := c.Dead(); len(d) != 0 || e != 0 {
		t.Error(d, e)
	}
}

func TestP25_3(t *testing.T) {
	g := build(t, "var x, y, z; proc main { x = 3; y = x; z = *; x = z; either { y = y; } or { y = 4; } z = y; return; z = x; skip; } proc f { y = x; }")
	c := analyse(t, g)
	var copies []int
	for i, s := range g.Steps {
		if s.Kind == api.SCopy {
			copies = append(copies, i)
		}
	}
	if l, e := c.Folds(); !slices.Equal(l, []api.Fold{{Step: copies[0], K: 3}, {Step: copies[2], K: 3}}) || e != 0 {
		t.Error(l, e, copies)
	}
	reached := map[int]int{}
	l, _ := graph.Reach(g, 0)
	for _, n := range l {
		reached[n]++
	}
	var want []int
	for n := range g.Of {
		if reached[n] == 0 {
			want = append(want, n)
		}
	}
	if l, e := c.Dead(); !slices.Equal(l, want) || e != 0 || len(want) < 4 {
		t.Error(l, want, e)
	}
	for _, s := range programs {
		g := build(t, s)
		c := analyse(t, g)
		dead, _ := c.Dead()
		folds, _ := c.Folds()
		for n := range g.Of {
			l, e := c.All(n, parse(".*"))
			if e != 0 || slices.Contains(dead, n) == l[0].Reached {
				t.Error(s, n, l, e)
			}
		}
		for i, x := range g.Steps {
			if x.Kind != api.SCopy {
				continue
			}
			k, _ := c.At(x.From, parse(".*"), x.Y)
			if slices.Contains(folds, api.Fold{Step: i, K: k.K}) != k.Is {
				t.Error(s, i, k, folds)
			}
		}
	}
}

// seen is what executions of few moves show of a variable at a node with calls open.
func seen(t *testing.T, g api.Graph, r api.Regex, node, x int) []int64 {
	t.Helper()
	s, _ := frames.Start(g)
	all, e := frames.Explore(g, s, []int64{100, 101}, 24, 20000)
	if e != 0 {
		t.Fatal(e)
	}
	var l []int64
	for _, y := range all {
		var word []string
		for _, site := range y.Stack {
			word = append(word, g.Sites[site].Name)
		}
		if ok, _ := regex.Match(r, word...); ok && y.Node == node && !slices.Contains(l, y.Env[x]) {
			l = append(l, y.Env[x])
		}
	}
	return l
}

var langs = []string{".*", "%", "a", ". a", "!(. .*)", "b* a"}

// each asks all of all programs, and tells what executions show.
func each(t *testing.T, f func(name string, k api.Known, values []int64)) {
	t.Helper()
	for _, s := range programs {
		g := build(t, s)
		c := analyse(t, g)
		for _, text := range langs {
			if strings.Contains(text, "b") && !strings.Contains(s, "from b") {
				continue
			}
			for node := range g.Of {
				for x := range g.Vars {
					k, e := c.At(node, parse(text), x)
					if e != 0 {
						t.Fatal(s, text, e)
					}
					f(s+" "+text, k, seen(t, g, parse(text), node, x))
				}
			}
		}
	}
}

func TestP25_4(t *testing.T) {
	each(t, func(name string, k api.Known, values []int64) {
		if len(values) > 0 && !k.Reached || k.Is && len(values) > 0 && (len(values) > 1 || values[0] != k.K) {
			t.Error(name, k, values)
		}
	})
}

func TestP25_5(t *testing.T) {
	each(t, func(name string, k api.Known, values []int64) {
		if len(values) == 0 && k.Reached || len(values) == 1 && (!k.Is || k.K != values[0]) {
			t.Error(name, k, values)
		}
	})
}

func TestP25_6(t *testing.T) {
	for _, s := range programs {
		g := build(t, s)
		c := analyse(t, g)
		for _, a := range langs[:5] {
			for _, b := range langs[:5] {
				for node := range g.Of {
					x, _ := c.All(node, parse(a))
					y, _ := c.All(node, parse(b))
					z, e := c.All(node, parse("("+a+") | "+b))
					if e != 0 {
						t.Fatal(e)
					}
					for v := range x {
						want := x[v]
						if !want.Reached {
							want = y[v]
						} else if y[v].Reached && x[v] != y[v] {
							want = api.Known{Reached: true}
						}
						if z[v] != want {
							t.Error(s, a, b, node, x[v], y[v], z[v])
						}
					}
				}
			}
		}
	}
}

// TestPrograms: of programs without a pattern nothing is told that an execution of few moves belies.
func TestPrograms(t *testing.T) {
	known := 0
	for i := range 300 {
		g, _, e := graph.Make(samples.New(i).Program())
		if e != 0 {
			t.Fatal(e)
		}
		c := analyse(t, g, i)
		s, _ := frames.Start(g)
		all, e := frames.Explore(g, s, []int64{100, 101}, 10, 20000)
		if e != 0 {
			t.Fatal(e)
		}
		for _, text := range langs[:2] {
			r := parse(text)
			for _, y := range all {
				var word []string
				for _, site := range y.Stack {
					word = append(word, g.Sites[site].Name)
				}
				if ok, _ := regex.Match(r, word...); !ok {
					continue
				}
				l, e := c.All(y.Node, r)
				if e != 0 {
					t.Fatal(i, e)
				}
				for x, k := range l {
					if !k.Reached || k.Is && k.K != y.Env[x] {
						t.Fatal(i, text, y, x, k)
					}
					if k.Is {
						known++
					}
				}
			}
		}
	}
	if known < 1000 {
		t.Error(known)
	}
}
