package regex

import (
	"slices"
	"strings"
	"testing"

	"stackyard/api"
)

func name(n string) api.Regex { return api.Regex{Op: api.RName, Name: n} }

func node(op api.RegexOp, kids ...api.Regex) api.Regex { return api.Regex{Op: op, Kids: kids} }

func parse(t *testing.T, s string) api.Regex {
	t.Helper()
	r, at, e := Parse(s)
	if at != 0 || e != 0 {
		t.Fatalf("Parse(%q): %d, %d", s, at, e)
	}
	return r
}

var texts = []string{"a", ".", "%", "#", "a b", "a | b", "a*", "!a", "a**", "!!a", "(a b)*", "(!a)*", "!(a | b)", "!(a b) c", "(a | b) c*", "!a* b", "main (f | g)* !h", "a | !(b c)* | %", "(a | b c)* (!. a | #)"}

// bad tells expressions that may not be.
func bad() []api.Regex {
	a := name("a")
	return []api.Regex{{}, {Op: 9}, {Op: -1}, name(""), name("9"), name("a-b"), name(strings.Repeat("a", 65)),
		node(api.RName), node(api.RAny, a), {Op: api.RAny, Name: "a"}, node(api.RSeq, a), node(api.RAlt), node(api.RStar), node(api.RStar, a, a), node(api.RNot),
		node(api.RSeq, a, node(api.RSeq, a, a)), node(api.RAlt, node(api.RAlt, a, a), a), node(api.RNot, name("")), {Op: api.RStar, Name: "a", Kids: []api.Regex{a}}, {Op: api.RName, Name: "a", Kids: []api.Regex{a}}}
}

// deep is a name within so many complements.
func deep(n int) api.Regex {
	r := name("a")
	for range n {
		r = node(api.RNot, r)
	}
	return r
}

// wide is a row of so many names.
func wide(n int) api.Regex {
	r := api.Regex{Op: api.RSeq}
	for range n {
		r.Kids = append(r.Kids, name("a"))
	}
	return r
}

func TestP7_1(t *testing.T) {
	for _, r := range bad() {
		if Check(r) != api.ErrRegex {
			t.Error(r)
		}
		if s, e := Print(r); s != "" || e != api.ErrRegex {
			t.Error(s, e)
		}
		if l, e := Names(r); l != nil || e != api.ErrRegex {
			t.Error(l, e)
		}
	}
	loop := []api.Regex{{Op: api.RStar}}
	loop[0].Kids = loop
	for _, r := range []api.Regex{deep(50), wide(500), node(77, wide(500)), node(api.RStar, deep(49), deep(49), deep(50)), loop[0]} {
		if Check(r) != api.ErrDeep {
			t.Error("deep")
		}
		if s, e := Print(r); s != "" || e != api.ErrDeep {
			t.Error(s, e)
		}
	}
	if Check(deep(49)) != 0 || Check(wide(499)) != 0 || Check(name(strings.Repeat("_", 64))) != 0 {
		t.Error("at the limit")
	}
	for _, s := range texts {
		r := parse(t, s)
		if p, e := Print(r); p != s || e != 0 {
			t.Errorf("%q printed %q", s, p)
		}
	}
	if l, e := Names(parse(t, "c (a | !b)* a . c")); !slices.Equal(l, []string{"a", "b", "c"}) || e != 0 {
		t.Error(l, e)
	}
	if l, e := Names(parse(t, "%")); len(l) != 0 || e != 0 {
		t.Error(l, e)
	}
}

func TestP7_2(t *testing.T) {
	for s, want := range map[string]api.Regex{
		" \t\r\na\n":       name("a"),
		"a.b":              node(api.RSeq, name("a"), api.Regex{Op: api.RAny}, name("b")),
		"a(b)":             node(api.RSeq, name("a"), name("b")),
		"a ((b c) d)":      node(api.RSeq, name("a"), name("b"), name("c"), name("d")),
		"a|((b|c))|(d|e)":  node(api.RAlt, name("a"), name("b"), name("c"), name("d"), name("e")),
		"! a *":            node(api.RNot, node(api.RStar, name("a"))),
		"(a|b)*":           node(api.RStar, node(api.RAlt, name("a"), name("b"))),
		"(((a)))":          name("a"),
		"azAZ_09 z Z A":    node(api.RSeq, name("azAZ_09"), name("z"), name("Z"), name("A")),
		"a9_ _":            node(api.RSeq, name("a9_"), name("_")),
		"a!b":              node(api.RSeq, name("a"), node(api.RNot, name("b"))),
		"%#":               node(api.RSeq, api.Regex{Op: api.REmpty}, api.Regex{Op: api.RNone}),
		"(a b)|(c (d e))*": node(api.RAlt, node(api.RSeq, name("a"), name("b")), node(api.RStar, node(api.RSeq, name("c"), name("d"), name("e")))),
	} {
		if r := parse(t, s); !Same(r, want) {
			t.Errorf("%q: %v", s, r)
		}
	}
	for s, want := range map[string]int{"": 0, "  ": 2, "a |": 3, "a | ": 4, "a)": 1, "9": 0, "a 9": 2, "(a": 2, "()": 1, "*": 0, "a ! ": 4, "!*": 1, "a||b": 2, "(a))": 3, "a\x00": 1, "é": 0, "a,": 1, "a@": 1, "a[": 1, "a`": 1, "a{": 1, "a/": 1, "a:": 1, "\v": 0,
		"b " + strings.Repeat("a", 65): 66, strings.Repeat("(", 200) + ")": 200} {
		if r, at, e := Parse(s); !Same(r, api.Regex{}) || at != want || e != api.ErrRegex {
			t.Errorf("%q: %v, %d, %d", s, r, at, e)
		}
	}
	parens := func(n int) string { return strings.Repeat("(", n) + "a" + strings.Repeat(")", n) }
	for _, s := range []string{parens(51), strings.Repeat("!", 50) + "a", strings.Repeat("a", 1) + strings.Repeat(" a", 499), strings.Repeat("a*", 1) + strings.Repeat("*", 60)} {
		if r, at, e := Parse(s); !Same(r, api.Regex{}) || at != 0 || e != api.ErrDeep {
			t.Errorf("%q: %v, %d, %d", s, r, at, e)
		}
	}
	if _, at, e := Parse(parens(51) + ")"); at != 103 || e != api.ErrRegex {
		t.Error(at, e)
	}
	parse(t, parens(50)+parens(50))
	parse(t, "a"+strings.Repeat(" a", 498))
	parse(t, "a"+strings.Repeat(" ", 9999))
	if r, at, e := Parse("a" + strings.Repeat(" ", 10000)); !Same(r, api.Regex{}) || at != 0 || e != api.ErrLong {
		t.Error(at, e)
	}
}

// words tells all words over names of at most n.
func words(n int, names ...string) [][]string {
	l := [][]string{{}}
	for i := 0; i < len(l); i++ {
		if len(l[i]) < n {
			for _, x := range names {
				l = append(l, append(slices.Clone(l[i]), x))
			}
		}
	}
	return l
}

// isWord says by definition whether a word is one of an expression.
func isWord(r api.Regex, w []string) bool {
	switch r.Op {
	case api.RName:
		return len(w) == 1 && w[0] == r.Name
	case api.RAny:
		return len(w) == 1
	case api.REmpty:
		return len(w) == 0
	case api.RSeq:
		if len(r.Kids) == 0 {
			return len(w) == 0
		}
		for i := range len(w) + 1 {
			if isWord(r.Kids[0], w[:i]) && isWord(node(api.RSeq, r.Kids[1:]...), w[i:]) {
				return true
			}
		}
	case api.RAlt:
		return slices.ContainsFunc(r.Kids, func(k api.Regex) bool { return isWord(k, w) })
	case api.RStar:
		for i := 1; i <= len(w); i++ {
			if isWord(r.Kids[0], w[:i]) && isWord(r, w[i:]) {
				return true
			}
		}
		return len(w) == 0
	case api.RNot:
		return !isWord(r.Kids[0], w)
	}
	return false
}

func TestP7_3(t *testing.T) {
	for _, s := range texts {
		r := parse(t, s)
		for _, w := range words(4, "a", "b", "c", "?") {
			if ok, e := Match(r, w...); ok != isWord(r, w) || e != 0 {
				t.Errorf("%q: %v: %v, %d", s, w, ok, e)
			}
		}
	}
	long := slices.Repeat([]string{"a"}, 100)
	if ok, e := Match(parse(t, "(a a)*"), long...); !ok || e != 0 {
		t.Error(ok, e)
	}
	if ok, e := Match(parse(t, "(a a a)*"), long...); ok || e != 0 {
		t.Error(ok, e)
	}
	if ok, e := Match(parse(t, ".*"), append(long, "a")...); ok || e != api.ErrMany {
		t.Error(ok, e)
	}
	if ok, e := Match(api.Regex{}, append(long, "a")...); ok || e != api.ErrRegex {
		t.Error(ok, e)
	}
	if ok, e := Match(deep(50), append(long, "a")...); ok || e != api.ErrDeep {
		t.Error(ok, e)
	}
}

func TestP7_4(t *testing.T) {
	a, ab := name("a"), parse(t, "a b")
	join := func(op api.RegexOp, want string, l ...api.Regex) {
		r, e := Join(op, l...)
		if s, _ := Print(r); s != want || e != 0 {
			t.Errorf("%q, %d; want %q", s, e, want)
		}
	}
	join(api.RSeq, "%")
	join(api.RAlt, "#")
	join(api.RSeq, "a b", ab)
	join(api.RSeq, "a a b a", a, ab, a)
	join(api.RAlt, "a | a b", a, ab)
	join(api.RAlt, "a | b | a", parse(t, "a | b"), a)
	join(api.RSeq, "(a | b) a", parse(t, "a | b"), a)
	for _, op := range []api.RegexOp{0, api.RName, api.RStar, 9} {
		if r, e := Join(op, api.Regex{}); e != api.ErrArg || !Same(r, api.Regex{}) {
			t.Error(op, e)
		}
	}
	for _, c := range []struct {
		l    []api.Regex
		want api.Errno
	}{{[]api.Regex{a, {}, deep(50)}, api.ErrRegex}, {[]api.Regex{a, deep(50), {}}, api.ErrDeep}, {[]api.Regex{wide(300), wide(300)}, api.ErrDeep}, {[]api.Regex{a, deep(49)}, api.ErrDeep}} {
		if r, e := Join(api.RSeq, c.l...); e != c.want || !Same(r, api.Regex{}) {
			t.Error(e, c.want)
		}
	}
	r, _ := Join(api.RSeq, ab, a)
	r.Kids[0].Name = "x"
	if ab.Kids[0].Name != "a" {
		t.Error("shared")
	}
	turned, e := Turn(parse(t, "a !(b c)* (d | e f)"))
	if s, _ := Print(turned); s != "(d | f e) !(c b)* a" || e != 0 {
		t.Error(s, e)
	}
	if r, e := Turn(api.Regex{}); e != api.ErrRegex || !Same(r, api.Regex{}) {
		t.Error(e)
	}
}

func TestP7_5(t *testing.T) {
	for i, s := range texts {
		for j, x := range texts {
			if Same(parse(t, s), parse(t, x)) != (i == j) {
				t.Error(s, x)
			}
		}
	}
	if !Same(api.Regex{Op: 99, Kids: []api.Regex{}}, api.Regex{Op: 99}) || Same(name("a"), name("b")) {
		t.Error("Same")
	}
}

func TestP7_6(t *testing.T) {
	for _, s := range texts {
		r := parse(t, s)
		for _, x := range []api.Regex{r, node(api.RStar, r), node(api.RNot, r), node(api.RNot, node(api.RStar, node(api.RNot, r)))} {
			p, e := Print(x)
			if e != 0 || !Same(parse(t, p), x) {
				t.Error(p, e)
			}
		}
	}
}

func TestP7_7(t *testing.T) {
	for _, s := range texts {
		r := parse(t, s)
		back, _ := Turn(r)
		if again, _ := Turn(back); !Same(again, r) {
			t.Error(s)
		}
		for _, w := range words(3, "a", "b", "c") {
			x, _ := Match(r, w...)
			slices.Reverse(w)
			if y, _ := Match(back, w...); x != y {
				t.Error(s, w)
			}
		}
	}
}

func TestP7_8(t *testing.T) {
	for _, s := range texts {
		r := parse(t, s)
		for _, w := range words(3, "a", "b", "c") {
			x, _ := Match(r, w...)
			if y, _ := Match(node(api.RNot, r), w...); x == y {
				t.Error(s, w)
			}
		}
	}
}
