package frames

import (
	"slices"
	"testing"

	"stackyard/api"
	"stackyard/graph"
	"stackyard/samples"
	"stackyard/syntax"
)

func build(t *testing.T, s string) api.Graph {
	t.Helper()
	p, line, col, e := syntax.Parse(s)
	if e != 0 {
		t.Fatal(s, line, col, e)
	}
	g, spot, e := graph.Make(p)
	if e != 0 {
		t.Fatal(s, spot, e)
	}
	return g
}

const every = `var x, y;
proc main { skip; x = -3; y = x; x = *; mark x; y = x; clean x; x = y; x = 4; call f from a; sink x; }
proc f { either { call f from b; } or { loop { sink y; mark y; sink y; sink x; } } }`

// nest is a state with so many calls of f open.
func nest(g api.Graph, n int) api.State {
	return api.State{Node: g.Entry[1], Env: []int64{0, 0}, Stack: append(slices.Repeat([]int{1}, n-1), 0)}
}

func TestErrors(t *testing.T) {
	g := build(t, every)
	good, _ := Start(g)
	bad := []api.State{{Node: -1, Env: good.Env}, {Node: len(g.Of), Env: good.Env}, {}, {Env: make([]int64, 3)}, {Env: good.Env, Marks: 4}, {Env: good.Env, Stack: []int{0}}, {Env: good.Env, Stack: []int{-1}}, {Env: good.Env, Stack: []int{2}}, {Node: g.Entry[1], Env: good.Env, Stack: []int{0, 0}}, {Node: g.Entry[1], Env: good.Env, Stack: []int{0, 1}}, nest(g, api.MaxWord+1)}
	ask := func(g api.Graph, s api.State, want api.Errno) {
		t.Helper()
		l, over, e1 := Moves(g, s)
		x, e2 := Do(g, s, api.Move{Step: 99})
		y, at, e3 := Run(g, s, api.Move{Step: 99})
		all, e4 := Explore(g, s, nil, -1, -1)
		leaks, e5 := Leaks(g, s)
		for i, e := range []api.Errno{Check(g, s), e1, e2, e3, e4, e5} {
			if e != want {
				t.Error(i, e, want)
			}
		}
		if l != nil || over || !Same(x, api.State{}) || !Same(y, api.State{}) || at != 0 || all != nil || leaks != nil {
			t.Error("not zero")
		}
	}
	for _, s := range bad {
		ask(g, s, api.ErrFrame)
	}
	ask(api.Graph{}, good, api.ErrGraph)
	if s, e := Start(api.Graph{}); e != api.ErrGraph || !Same(s, api.State{}) {
		t.Error(e)
	}
	for _, s := range []api.State{good, {Node: g.Exit[1], Env: good.Env, Marks: 3}, nest(g, api.MaxWord)} {
		if Check(g, s) != 0 {
			t.Error(s.Node)
		}
	}
}

func TestP22_1(t *testing.T) {
	g := build(t, "var x; proc main { mark x; call f; } proc f { sink x; }")
	s, e := Start(g)
	if e != 0 || !Same(s, api.State{Env: []int64{0}}) {
		t.Error(s, e)
	}
	s, _, _ = Run(g, s, api.Move{Step: 0}, api.Move{Step: 1})
	if !Same(s, api.State{Node: g.Entry[1], Env: []int64{0}, Marks: 1, Stack: []int{0}}) {
		t.Error(s)
	}
	if l, e := Leaks(g, s); !slices.Equal(l, []int{0}) || e != 0 {
		t.Error(l, e)
	}
	s.Marks = 0
	if l, e := Leaks(g, s); len(l) != 0 || e != 0 {
		t.Error(l, e)
	}
	g = build(t, every)
	if l, over, e := Moves(g, nest(g, 2)); len(l) != 2 || l[0] > l[1] || over || e != 0 {
		t.Error(l, over, e)
	}
	end := nest(g, 1)
	end.Node = g.Exit[1]
	if l, over, e := Moves(g, end); len(l) != 0 || !over || e != 0 {
		t.Error(l, over, e)
	}
	end.Stack = nil
	if _, over, _ := Moves(g, end); over {
		t.Error("no call is open")
	}
	both := build(t, "var x, y; proc main { sink y; sink x; sink y; }")
	if l, _ := Leaks(both, api.State{Env: []int64{0, 0}, Marks: 2}); !slices.Equal(l, []int{0, 2}) {
		t.Error(l)
	}
}

func TestP22_2(t *testing.T) {
	g := build(t, every)
	s, _ := Start(g)
	for i, want := range []struct {
		x, y  int64
		marks uint64
	}{{0, 0, 0}, {-3, 0, 0}, {-3, -3, 0}, {7, -3, 0}, {7, -3, 1}, {7, 7, 3}, {7, 7, 2}, {7, 7, 3}, {4, 7, 2}} {
		m := api.Move{Step: i}
		if i == 3 {
			m.Draw = 7
		}
		next, e := Do(g, s, m)
		if e != 0 || !slices.Equal(next.Env, []int64{want.x, want.y}) || next.Marks != want.marks || next.Node != g.Steps[i].To || len(next.Stack) > 0 {
			t.Fatal(i, next, e)
		}
		s = next
	}
	in, e := Do(g, s, api.Move{Step: 9})
	if e != 0 || in.Node != g.Entry[1] || !slices.Equal(in.Stack, []int{0}) {
		t.Error(in, e)
	}
	in.Node = g.Exit[1]
	out, e := Do(g, in, api.Move{Step: -1})
	if e != 0 || out.Node != g.Sites[0].Back || len(out.Stack) != 0 {
		t.Error(out, e)
	}
	for _, m := range []api.Move{{Step: 0}, {Step: -2}, {Step: 99}, {Step: len(g.Steps)}, {Step: 9, Draw: 1}, {Step: -1}} {
		if x, e := Do(g, s, m); e != api.ErrMove || !Same(x, api.State{}) {
			t.Error(m, e)
		}
	}
	if _, e := Do(g, in, api.Move{Step: -1, Draw: 1}); e != api.ErrMove {
		t.Error(e)
	}
	full := nest(g, api.MaxWord)
	l, _, _ := Moves(g, full)
	if x, e := Do(g, full, api.Move{Step: l[0]}); e != api.ErrLong || !Same(x, api.State{}) {
		t.Error(e)
	}
	if _, e := Do(g, full, api.Move{Step: l[0], Draw: 1}); e != api.ErrMove {
		t.Error(e)
	}
	begin, _ := Start(g)
	if x, at, e := Run(g, begin, api.Move{Step: 0}, api.Move{Step: 1}, api.Move{Step: 1}, api.Move{Step: 99}); e != api.ErrMove || at != 2 || !Same(x, api.State{}) {
		t.Error(at, e)
	}
	if x, at, e := Run(g, begin); e != 0 || at != 0 || !Same(x, begin) {
		t.Error(at, e)
	}
}

func TestP22_3(t *testing.T) {
	g := build(t, "var x; proc main { x = *; either { skip; } or { x = 1; } call f; } proc f { }")
	s, _ := Start(g)
	all, e := Explore(g, s, []int64{1, 2, 1}, 2, 100)
	if e != 0 || len(all) != 6 {
		t.Fatal(all, e)
	}
	for i, want := range []int64{0, 1, 2, 1, 1, 2} {
		if all[i].Env[0] != want {
			t.Error(i, all[i])
		}
	}
	if l, e := Explore(g, s, []int64{1, 2}, 2, 5); l != nil || e != api.ErrMany {
		t.Error(e)
	}
	if l, e := Explore(g, s, make([]int64, 8), 0, 1); len(l) != 1 || e != 0 {
		t.Error(l, e)
	}
	round := build(t, "var x; proc main { loop { } x = 1; }")
	begin, _ := Start(round)
	if l, e := Explore(round, begin, nil, 2, 9); len(l) != 3 || e != 0 {
		t.Error(l, e)
	}
	for _, other := range []api.State{{Node: 1, Env: []int64{0}}, {Env: []int64{1}}, {Env: []int64{0}, Marks: 1}, {Env: []int64{0}, Stack: []int{0}}, {}} {
		if Same(begin, other) || !Same(other, other) {
			t.Error("Same", other)
		}
	}
	if l, e := Explore(g, s, nil, 100, 1); len(l) != 1 || e != 0 {
		t.Error(l, e)
	}
	if l, e := Explore(g, s, []int64{1}, 0, 1); len(l) != 1 || e != 0 {
		t.Error(l, e)
	}
	for i, c := range []struct {
		draws, n, most int
	}{{9, 0, 1}, {0, -1, 1}, {0, 101, 1}, {0, 0, 0}, {0, 0, 20001}} {
		if l, e := Explore(g, s, make([]int64, c.draws), c.n, c.most); l != nil || e != api.ErrArg {
			t.Error(i, e)
		}
	}
	g = build(t, every)
	if l, e := Explore(g, nest(g, api.MaxWord-2), nil, 2, 20000); len(l) == 0 || e != 0 {
		t.Error(e)
	}
	if l, e := Explore(g, nest(g, api.MaxWord-2), nil, 3, 20000); l != nil || e != api.ErrLong {
		t.Error(e)
	}
}

// walk makes so many moves by dice from the beginning.
func walk(g api.Graph, d *samples.Dice, n int, draws []int64) (api.State, []api.Move) {
	s, _ := Start(g)
	var l []api.Move
	for range n {
		steps, over, _ := Moves(g, s)
		k := d.Below(max(len(steps)+1, 1))
		m := api.Move{Step: -1}
		if k < len(steps) {
			m.Step = steps[k]
			if g.Steps[m.Step].Kind == api.SAny {
				m.Draw = draws[d.Below(len(draws))]
			}
		} else if !over {
			continue
		}
		s, _ = Do(g, s, m)
		l = append(l, m)
	}
	return s, l
}

func TestP22_4(t *testing.T) {
	g := build(t, every)
	for i := range 100 {
		d := samples.New(i)
		end, l := walk(g, d, 40, []int64{5, 6})
		begin, _ := Start(g)
		k := d.Below(len(l) + 1)
		mid, _, e1 := Run(g, begin, l[:k]...)
		last, _, e2 := Run(g, mid, l[k:]...)
		whole, _, e := Run(g, begin, l...)
		if e != 0 || e1 != 0 || e2 != 0 || !Same(whole, last) || !Same(whole, end) {
			t.Fatal(i, e, e1, e2)
		}
	}
}

func TestP22_5(t *testing.T) {
	g := build(t, every)
	for i := range 100 {
		end, l := walk(g, samples.New(i), 40, []int64{5, 6})
		other, _ := Start(g)
		other.Env = []int64{-9, 77}
		for k := range l {
			if l[k].Draw != 0 {
				l[k].Draw = -3
			}
		}
		x, _, e := Run(g, other, l...)
		if e != 0 || x.Node != end.Node || x.Marks != end.Marks || !slices.Equal(x.Stack, end.Stack) {
			t.Fatal(i, x, end)
		}
	}
}

func TestP22_6(t *testing.T) {
	g := build(t, every)
	for i := range 50 {
		_, l := walk(g, samples.New(i), 40, []int64{5, 6})
		s, _ := Start(g)
		for _, m := range l {
			next, e := Do(g, s, m)
			if e != 0 || Check(g, next) != 0 {
				t.Fatal(e)
			}
			long, short := next.Stack, s.Stack
			if len(long) < len(short) {
				long, short = short, long
			}
			if len(long)-len(short) > 1 || !slices.Equal(long[len(long)-len(short):], short) {
				t.Fatal(s, next)
			}
			s = next
		}
	}
}

func TestP22_7(t *testing.T) {
	g := build(t, every)
	begin, _ := Start(g)
	draws := []int64{5, 6}
	for n := range 14 {
		all, e := Explore(g, begin, draws, n, 20000)
		if e != 0 {
			t.Fatal(e)
		}
		for i := range 30 {
			end, _ := walk(g, samples.New(i), n, draws)
			if !slices.ContainsFunc(all, func(s api.State) bool { return Same(s, end) }) {
				t.Fatal(n, i, end)
			}
		}
	}
}
