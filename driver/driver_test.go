package driver

import (
	"slices"
	"strconv"
	"strings"
	"testing"

	"stackyard/api"
	"stackyard/frames"
	"stackyard/graph"
	"stackyard/regex"
	"stackyard/syntax"
)

const program = `var x; proc main { x = 1; mark x; call f from a; } proc f { at p; sink x; }`

func build(t *testing.T, s string) api.Graph {
	t.Helper()
	p, line, col, e := syntax.Parse(s)
	if e != 0 {
		t.Fatal(s, line, col, e)
	}
	g, spot, e := graph.Make(p)
	if e != 0 {
		t.Fatal(s, spot, e)
	}
	return g
}

func parse(s string) api.Regex {
	r, _, _ := regex.Parse(s)
	return r
}

func sameAsk(a, b api.Ask) bool {
	return a.Line == b.Line && a.Kind == b.Kind && a.Point == b.Point && regex.Same(a.Lang, b.Lang)
}

func TestP26_1(t *testing.T) {
	l, line, col, e := Asks("\n \t leaks \r\n\r\ndead\nreach p:a\ntaint\t p_1 \t:(a|b)*\r\n  const  q : %  ")
	want := []api.Ask{{Line: 2, Kind: api.AskLeaks}, {Line: 4, Kind: api.AskDead}, {Line: 5, Kind: api.AskReach, Point: "p", Lang: parse("a")}, {Line: 6, Kind: api.AskTaint, Point: "p_1", Lang: parse("(a | b)*")}, {Line: 7, Kind: api.AskConst, Point: "q", Lang: parse("%")}}
	if e != 0 || line != 0 || col != 0 || !slices.EqualFunc(l, want, sameAsk) {
		t.Error(l, line, col, e)
	}
	if l, _, _, e := Asks(" \n\t\n"); len(l) != 0 || e != 0 {
		t.Error(l, e)
	}
	for s, want := range map[string]struct {
		line, col int
		e         api.Errno
	}{
		"leaks\n  leak":  {2, 3, api.ErrAsk},
		"leaks x":        {1, 1, api.ErrAsk},
		"dead :":         {1, 1, api.ErrAsk},
		"reach":          {1, 1, api.ErrAsk},
		"reach p":        {1, 1, api.ErrAsk},
		"reach p a":      {1, 1, api.ErrAsk},
		"reach : a":      {1, 1, api.ErrAsk},
		"reach 9 : a":    {1, 1, api.ErrAsk},
		"reachp : a":     {1, 1, api.ErrAsk},
		"Reach p : a":    {1, 1, api.ErrAsk},
		"\x0b":           {1, 1, api.ErrAsk},
		"reach p\x0b: a": {1, 1, api.ErrAsk},
		"reach " + strings.Repeat("a", 65) + ": a": {1, 1, api.ErrAsk},
		" reach p : a | ":                          {1, 15, api.ErrRegex},
		"reach p :":                                {1, 10, api.ErrRegex},
		"reach p :   ":                             {1, 10, api.ErrRegex},
		"reach p : a)\nx":                          {1, 12, api.ErrRegex},
		"x\nreach p : a)":                          {1, 1, api.ErrAsk},
		"taint p: a : b":                           {1, 12, api.ErrRegex},
		"\n reach p: " + strings.Repeat("!", 50) + "a": {2, 10, api.ErrDeep},
		"reach p:a" + strings.Repeat(" ", 10000) + "a": {1, 9, api.ErrLong},
	} {
		if l, line, col, e := Asks(s); l != nil || line != want.line || col != want.col || e != want.e {
			t.Errorf("%q: %d, %d, %d", s, line, col, e)
		}
	}
	many := strings.Repeat("dead\n\n", api.MaxAsks)
	if l, _, _, e := Asks(many); len(l) != api.MaxAsks || e != 0 {
		t.Error(len(l), e)
	}
	for _, more := range []string{"  dead", "  what", "reach p : )"} {
		if l, line, col, e := Asks(many + more); l != nil || line != 2*api.MaxAsks+1 || col != 1 || e != api.ErrMany {
			t.Error(line, col, e)
		}
	}
	if l, _, _, e := Asks(strings.Repeat(" ", api.MaxText-4) + "dead"); len(l) != 1 || e != 0 {
		t.Error(len(l), e)
	}
	if l, line, col, e := Asks(strings.Repeat("x", api.MaxText+1)); l != nil || line != 0 || col != 0 || e != api.ErrLong {
		t.Error(line, col, e)
	}
	for i, a := range want {
		s, e := Text(a)
		if e != 0 || s != []string{"leaks", "dead", "reach p : a", "taint p_1 : (a | b)*", "const q : %"}[i] {
			t.Error(s, e)
		}
	}
	for _, a := range wrongAsks() {
		if s, e := Text(a); s != "" || e != api.ErrAsk {
			t.Error(a, s, e)
		}
	}
}

func wrongAsks() []api.Ask {
	return []api.Ask{{}, {Kind: 6}, {Kind: api.AskReach, Lang: parse("a")}, {Kind: api.AskTaint, Point: "9", Lang: parse("a")}, {Kind: api.AskConst, Point: "p"}, {Kind: api.AskLeaks, Point: "p"}, {Kind: api.AskDead, Lang: parse("a")}, {Kind: api.AskLeaks, Lang: api.Regex{Kids: []api.Regex{{}}}}}
}

func TestP26_2(t *testing.T) {
	g := build(t, `var x, y; proc main { x = 1; mark x; call f from a; mark y; call f from b; at q; call h from c; } proc f { at p; sink x; y = x; sink y; } proc h { return; at d; skip; at e; x = 1; }`)
	for text, want := range map[string]string{
		"reach p : a":     "7 reach p 3",
		"reach p : a | b": "7 reach p 3",
		"reach p : b":     "7 reach p 8",
		"reach p : a b":   "7 reach p never",
		"taint p : a":     "7 taint p x 3",
		"taint p : b":     "7 taint p x 8, y 8",
		"taint p : #":     "7 taint p never",
		"taint main : %":  "",
		"taint d : c":     "7 taint d never",
		"const p : a":     "7 const p x 1, y 0",
		"const p : .":     "7 const p x 1, y ?",
		"const p : %":     "7 const p never",
		"const d : c":     "7 const d never",
		"leaks":           "7 leaks 0 x 3, 1 y 4",
		"dead":            "7 dead 13 14 15",
		"reach zzz : a":   "",
		"reach p : zzz":   "",
		"const p : zzz":   "",
		"const zzz : zzz": "",
	} {
		l, _, _, e := Asks(text)
		if e != 0 {
			t.Fatal(text, e)
		}
		l[0].Line = 7
		got, e := Answer(g, l[0], 100)
		code := api.OK
		switch {
		case strings.Contains(text, "zzz :") || strings.Contains(text, "main"):
			code = api.ErrUnknown
		case strings.Contains(text, "zzz"):
			code = api.ErrName
		}
		if got != want || e != code {
			t.Errorf("%s: %q, %d", text, got, e)
		}
	}
	plain := build(t, "var x; proc main { at p; sink x; }")
	for text, want := range map[string]string{"taint p : %": "0 taint p clean", "leaks": "0 leaks none", "dead": "0 dead none"} {
		l, _, _, _ := Asks(text)
		l[0].Line = 0
		if got, e := Answer(plain, l[0], 0); got != want || e != 0 {
			t.Error(text, got, e)
		}
	}
	bare := build(t, "proc main { at p; return; at d; }")
	for text, want := range map[string]string{"const p : %": "0 const p nothing", "const d : %": "0 const d nothing", "taint p : %": "0 taint p clean", "reach p : .*": "0 reach p 0", "dead": "0 dead 2"} {
		l, _, _, _ := Asks(text)
		l[0].Line = 0
		if got, e := Answer(bare, l[0], 9); got != want || e != 0 {
			t.Error(text, got, e)
		}
	}
	for i, c := range []struct {
		g     api.Graph
		a     api.Ask
		limit int
		want  api.Errno
	}{{api.Graph{}, api.Ask{}, -1, api.ErrGraph}, {g, api.Ask{}, -1, api.ErrCap}, {g, api.Ask{}, api.MaxCap + 1, api.ErrCap}, {g, api.Ask{}, 0, api.ErrAsk}} {
		if s, e := Answer(c.g, c.a, c.limit); s != "" || e != c.want {
			t.Error(i, e)
		}
	}
	for _, a := range wrongAsks() {
		if s, e := Answer(g, a, 9); s != "" || e != api.ErrAsk {
			t.Error(a, e)
		}
	}
	huge := build(t, "proc main { at p; either { } "+strings.Repeat("or { } ", 16500)+"}")
	if s, e := Answer(huge, api.Ask{Kind: api.AskDead}, 9); s != "" || e != api.ErrMany {
		t.Error(s, e)
	}
	if s, e := Answer(huge, api.Ask{Kind: api.AskReach, Point: "p", Lang: parse("%")}, 9); s != "0 reach p 0" || e != 0 {
		t.Error(s, e)
	}
}

func TestP26_3(t *testing.T) {
	s, f := Run(program, "taint p : a\nconst p : a\nleaks\n", 100)
	if s != "1 taint p x 3\n2 const p x 1\n3 leaks 0 x 3\n" || f != (api.Failure{}) {
		t.Errorf("%q, %v", s, f)
	}
	for _, limit := range []int{0, api.MaxCap} {
		if s, f := Run(program, "", limit); s != "" || f != (api.Failure{}) {
			t.Error(s, f)
		}
	}
	for i, c := range []struct {
		program, questions string
		limit              int
		want               api.Failure
	}{
		{"x", "x", -1, api.Failure{Code: api.ErrCap}},
		{"x", "x", api.MaxCap + 1, api.Failure{Code: api.ErrCap}},
		{"proc f {\n ?", "x", 9, api.Failure{Code: api.ErrSyntax, Part: 1, Line: 2, Col: 2}},
		{"proc f {\n $", "x", 9, api.Failure{Code: api.ErrToken, Part: 1, Line: 2, Col: 2}},
		{"proc main { x = 1; }", "x", 9, api.Failure{Code: api.ErrUnknown, Part: 1}},
		{"proc f { }", "x", 9, api.Failure{Code: api.ErrUnknown, Part: 1, Line: -1, Col: -1}},
		{program, "leaks\n what", 9, api.Failure{Code: api.ErrAsk, Part: 2, Line: 2, Col: 2}},
		{program, "leaks\n reach z : a\nreach p : z", 9, api.Failure{Code: api.ErrUnknown, Part: 2, Line: 2, Col: 1}},
		{program, "leaks\n\n reach p : z", 9, api.Failure{Code: api.ErrName, Part: 2, Line: 3, Col: 1}},
	} {
		if s, f := Run(c.program, c.questions, c.limit); s != "" || f != c.want {
			t.Error(i, s, f)
		}
	}
}

// TestTen: the document's examples of the whole.
func TestTen(t *testing.T) {
	for i, c := range []struct{ program, questions, want string }{
		{"var x; proc main { mark x; call f from a; clean x; call f from b; } proc f { at p; }", "taint p : a\ntaint p : b\nreach p : a b", "1 taint p x 2\n2 taint p clean\n3 reach p never\n"},
		{"var x; proc main { x = 1; call f from a; x = 2; call f from b; } proc f { at p; }", "const p : a\nconst p : b\nconst p : a | b", "1 const p x 1\n2 const p x 2\n3 const p x ?\n"},
		{"proc main { call f from a; } proc f { at p; either { call f from r; } or { } }", "reach p : r* a\nreach p : r r a", "1 reach p 1\n2 reach p 3\n"},
		{"proc main { return; at p; skip; }", "reach p : .*\ndead", "1 reach p never\n2 dead 2 3\n"},
	} {
		if s, f := Run(c.program, c.questions, 1000); s != c.want || f != (api.Failure{}) {
			t.Errorf("%d: %q, %v", i, s, f)
		}
	}
	if _, f := Run("proc main { x = 1; }", "", 9); f != (api.Failure{Code: api.ErrUnknown, Part: 1}) {
		t.Error(f)
	}
}

func TestP26_4(t *testing.T) {
	for _, a := range []api.Ask{{Kind: api.AskLeaks}, {Kind: api.AskDead}, {Kind: api.AskReach, Point: "reach", Lang: parse("a | !(b c)*")}, {Kind: api.AskTaint, Point: "_", Lang: parse("#")}, {Kind: api.AskConst, Point: strings.Repeat("a", 64), Lang: parse("(a b)*")}} {
		s, e := Text(a)
		l, _, _, e2 := Asks(s)
		a.Line = 1
		if e != 0 || e2 != 0 || len(l) != 1 || !sameAsk(l[0], a) {
			t.Error(s, l, e, e2)
		}
	}
}

func TestP26_5(t *testing.T) {
	texts := []string{"", "leaks", "what", "reach p : )", strings.Repeat("x", api.MaxText+1)}
	programs := []string{"x", "proc main {", "proc f { }", "var x, x;"}
	for _, p := range programs {
		_, want := Run(p, "", 9)
		for _, q := range texts {
			if _, f := Run(p, q, 9); f != want || f.Part != 1 {
				t.Error(p, f)
			}
		}
	}
	for _, q := range texts[2:] {
		_, want := Run(program, q, 9)
		for _, p := range []string{program, "proc main { }", "var y; proc main { at p; }"} {
			if _, f := Run(p, q, 9); f != want || f.Part != 2 {
				t.Error(q, f, want)
			}
		}
	}
}

func TestP26_6(t *testing.T) {
	for _, s := range []string{program, `var x, y; proc main { loop { x = 3; call f from a; at m; } } proc f { either { y = x; } or { call f from r; x = *; } at p; }`} {
		g := build(t, s)
		begin, _ := frames.Start(g)
		all, e := frames.Explore(g, begin, []int64{5, 6}, 14, 20000)
		if e != 0 {
			t.Fatal(e)
		}
		for i, x := range all {
			for _, p := range g.Points {
				if p.Node != x.Node || i%3 > 0 && i > 50 {
					continue
				}
				word := "%"
				for _, site := range x.Stack {
					word += " " + g.Sites[site].Name
				}
				out, f := Run(s, "reach "+p.Name+" : "+word+"\nconst "+p.Name+" : "+word, 1000)
				if f != (api.Failure{}) || strings.Contains(out, "never") {
					t.Fatal(s, word, out, f)
				}
				_, told, _ := strings.Cut(out, "const "+p.Name+" ")
				for v, part := range strings.Split(strings.TrimSpace(told), ", ") {
					want := g.Vars[v] + " " + strconv.FormatInt(x.Env[v], 10)
					if part != want && part != g.Vars[v]+" ?" {
						t.Fatal(s, word, part, want)
					}
				}
			}
		}
	}
}
