package words

import (
	"strings"
	"testing"

	"stackyard/api"
)

func texts(l []api.Token) string {
	var s []string
	for _, t := range l {
		s = append(s, t.Text)
	}
	return strings.Join(s, "~")
}

func TestP6_1(t *testing.T) {
	for s, want := range map[string]string{
		"":                "",
		"x1 = -3; # no":   "x1~=~-3~;",
		"a->b":            "a~->~b",
		"3x":              "3~x",
		"3-4":             "3~-4",
		"a-1":             "a~-1",
		"->-1":            "->~-1",
		"# only":          "",
		"#a\nb#c\n\td\r":  "b~d",
		"{}();,:=*+?|.!&": "{~}~(~)~;~,~:~=~*~+~?~|~.~!~&",
		"-9223372036854775808 9223372036854775807": "-9223372036854775808~9223372036854775807",
		strings.Repeat("a", 64):                    strings.Repeat("a", 64),
		"azAZ_09 a z A Z 0 9":                      "azAZ_09~a~z~A~Z~0~9",
		"# \xff é\n_":                              "_",
	} {
		l, line, col, e := Split(s)
		if texts(l) != want || line != 0 || col != 0 || e != 0 {
			t.Errorf("%q: %v, %d, %d, %d", s, l, line, col, e)
		}
	}
	for s, want := range map[string][2]int{
		"007": {1, 1}, "a $": {1, 3}, "-": {1, 1}, "-0": {1, 1}, "a\n -01": {2, 2}, "--1": {1, 1}, "> a": {1, 1}, "a é": {1, 3},
		"9223372036854775808": {1, 1}, "-9223372036854775809": {1, 1}, "\x00": {1, 1}, "a -": {1, 3},
		"\n" + strings.Repeat("a", 65): {2, 1}, "00x": {1, 1}, "a@": {1, 2}, "a[": {1, 2}, "a`": {1, 2}, "a~": {1, 2}, "a/": {1, 2},
	} {
		l, line, col, e := Split(s)
		if l != nil || line != want[0] || col != want[1] || e != api.ErrToken {
			t.Errorf("%q: %v, %d, %d, %d", s, l, line, col, e)
		}
	}
	if l, line, col, e := Split(strings.Repeat(" ", api.MaxText)); len(l) != 0 || line != 0 || col != 0 || e != 0 {
		t.Error("as long as may be")
	}
	if l, line, col, e := Split(strings.Repeat("$", api.MaxText+1)); l != nil || line != 0 || col != 0 || e != api.ErrLong {
		t.Error("too long")
	}
	many := strings.Repeat(";", api.MaxTokens)
	if l, _, _, e := Split(many + " # $"); len(l) != api.MaxTokens || e != 0 {
		t.Error(len(l), e)
	}
	if l, line, col, e := Split(many + "\n a $"); l != nil || line != 2 || col != 2 || e != api.ErrMany {
		t.Error(len(l), line, col, e)
	}
	if l, line, col, e := Split(many + "\n $"); l != nil || line != 2 || col != 2 || e != api.ErrToken {
		t.Error(len(l), line, col, e)
	}
}

func TestP6_2(t *testing.T) {
	for s, want := range map[string]api.TokenKind{"a": api.TName, "_9": api.TName, "0": api.TNumber, "-5": api.TNumber, "->": api.TSign, "*": api.TSign} {
		if k, ok := Kind(s); k != want || !ok {
			t.Error(s, k, ok)
		}
	}
	for _, s := range []string{"", " a", "a ", "a b", "-0", "01", "-", ">", "a-", "3x", "->>", "**", "$", "#", strings.Repeat("a", 65), "é", "aé", "1\xff"} {
		if k, ok := Kind(s); k != 0 || ok {
			t.Error(s, k, ok)
		}
		if n, e := Number(s); n != 0 || e != api.ErrToken {
			t.Error(s, n, e)
		}
	}
	if n, e := Number("-9223372036854775808"); n != -1<<63 || e != 0 {
		t.Error(n, e)
	}
	if n, e := Number("a"); n != 0 || e != api.ErrToken {
		t.Error(n, e)
	}
}

func TestP6_3(t *testing.T) {
	a, one, sign := api.Token{Kind: api.TName, Text: "a", Line: -4}, api.Token{Kind: api.TNumber, Text: "-1"}, api.Token{Kind: api.TSign, Text: "->"}
	if s, e := Say(a, one, sign); s != "a -1 ->" || e != 0 {
		t.Error(s, e)
	}
	if s, e := Say(); s != "" || e != 0 {
		t.Error(s, e)
	}
	for _, bad := range []api.Token{{}, {Kind: api.TNumber, Text: "a"}, {Kind: 4, Text: "a"}, {Kind: api.TName, Text: "a b"}} {
		if s, e := Say(a, bad); s != "" || e != api.ErrToken {
			t.Error(bad, s, e)
		}
	}
	l := make([]api.Token, api.MaxText/2)
	for i := range l {
		l[i] = a
	}
	if s, e := Say(l...); len(s) != api.MaxText-1 || e != 0 {
		t.Error(len(s), e)
	}
	if s, e := Say(append(l, a)...); s != "" || e != api.ErrLong {
		t.Error(len(s), e)
	}
	l[0].Text = "aa"
	if s, e := Say(l...); len(s) != api.MaxText || e != 0 {
		t.Error(len(s), e)
	}
}

func TestP6_4(t *testing.T) {
	for at, want := range [][2]int{{1, 1}, {1, 2}, {1, 3}, {1, 4}, {2, 1}, {3, 1}, {3, 2}} {
		if line, col, e := Place("aé\n\nb", at); line != want[0] || col != want[1] || e != 0 {
			t.Error(at, line, col, e)
		}
	}
	for _, at := range []int{-1, 7, 1<<63 - 1} {
		if line, col, e := Place("aé\n\nb", at); line != 0 || col != 0 || e != api.ErrRange {
			t.Error(at, line, col, e)
		}
	}
}

var samples = []string{"var x; proc main { x = -3; }", "a->b\n\n # c\n (d) -1-2", "\t_ . ! & ? + | :\r\n,0"}

func TestP6_5(t *testing.T) {
	for _, s := range samples {
		l, _, _, _ := Split(s)
		said, e := Say(l...)
		again, _, _, e2 := Split(said)
		if e != 0 || e2 != 0 || texts(again) != texts(l) {
			t.Error(s, e, e2)
		}
		for i, x := range again {
			if x.Line != 1 || x.Kind != l[i].Kind {
				t.Error(x)
			}
		}
	}
}

func TestP6_6(t *testing.T) {
	for _, s := range samples {
		l, _, _, _ := Split(s)
		last := -1
		for at := range len(s) + 1 {
			line, col, _ := Place(s, at)
			for _, x := range l {
				if x.Line != line || x.Col != col {
					continue
				}
				if !strings.HasPrefix(s[at:], x.Text) || at <= last {
					t.Error(s, x)
				}
				last = at
				l = l[1:]
				break
			}
		}
		if len(l) > 0 {
			t.Error(s, l)
		}
	}
}

func TestP6_7(t *testing.T) {
	for _, s := range samples {
		l, _, _, _ := Split(s)
		wide := "# begin\n"
		for _, x := range l {
			wide += x.Text + " \r\n# $ between\n\t"
		}
		again, _, _, e := Split(wide)
		if texts(again) != texts(l) || e != 0 {
			t.Error(s, again, e)
		}
	}
}
