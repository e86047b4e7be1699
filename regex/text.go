package regex

import (
	"strings"

	"stackyard/api"
)

// maxBytes is how long a text of an expression may be.
const maxBytes = 10000

// wrapped is the text of a Kid, in parentheses where its operator binds less than the one it stands in.
func wrapped(k api.Regex, in api.RegexOp) string {
	s := printed(k)
	apart := k.Op == api.RAlt
	apart = apart || k.Op == api.RSeq && (in == api.RStar || in == api.RNot)
	apart = apart || k.Op == api.RNot && in == api.RStar
	if apart {
		return "(" + s + ")"
	}
	return s
}

// printed is the text of an expression that may be.
func printed(r api.Regex) string {
	var kids []string
	for _, k := range r.Kids {
		kids = append(kids, wrapped(k, r.Op))
	}
	switch r.Op {
	case api.RAny:
		return "."
	case api.REmpty:
		return "%"
	case api.RNone:
		return "#"
	case api.RSeq:
		return strings.Join(kids, " ")
	case api.RAlt:
		return strings.Join(kids, " | ")
	case api.RStar:
		return kids[0] + "*"
	case api.RNot:
		return "!" + kids[0]
	}
	return r.Name
}

// Print is an expression's text.
func Print(r api.Regex) (string, api.Errno) {
	if e := Check(r); e != api.OK {
		return "", e
	}
	return printed(r), api.OK
}

// fault is the place at which a text is none.
type fault struct{ at int }

// place is where in a text a reader stands.
type place struct {
	text string
	at   int
}

// peek is the next byte that is no blank; 0 behind the end.
func (p *place) peek() byte {
	for p.at < len(p.text) && (p.text[p.at] == 9 || p.text[p.at] == 10 || p.text[p.at] == 13 || p.text[p.at] == 32) {
		p.at++
	}
	if p.at == len(p.text) {
		return 0
	}
	return p.text[p.at]
}

// fail stops the reading where it stands.
func (p *place) fail() { panic(fault{p.at}) }

// name takes the name that begins here.
func (p *place) name() string {
	from := p.at
	for p.at < len(p.text) && (isLetter(p.text[p.at]) || isDigit(p.text[p.at])) {
		if p.at-from == api.MaxName {
			p.fail()
		}
		p.at++
	}
	return p.text[from:p.at]
}

// reader reads an expression: open is how many parentheses are, most how many were at once.
type reader struct {
	place
	open, most int
}

// atom takes what a factor is of.
func (r *reader) atom() api.Regex {
	c := r.peek()
	if isLetter(c) {
		return api.Regex{Op: api.RName, Name: r.name()}
	}
	var out api.Regex
	switch c {
	case '.':
		out.Op = api.RAny
	case '%':
		out.Op = api.REmpty
	case '#':
		out.Op = api.RNone
	case '(':
		r.at++
		r.open++
		r.most = max(r.most, r.open)
		out = r.alternative()
		r.open--
		if r.peek() != ')' {
			r.fail()
		}
	default:
		r.fail()
	}
	r.at++
	return out
}

// factor takes an atom with what stands ahead of and behind it.
func (r *reader) factor() api.Regex {
	nots := 0
	for r.peek() == '!' {
		r.at++
		nots++
	}
	out := r.atom()
	for r.peek() == '*' {
		r.at++
		out = api.Regex{Op: api.RStar, Kids: []api.Regex{out}}
	}
	for range nots {
		out = api.Regex{Op: api.RNot, Kids: []api.Regex{out}}
	}
	return out
}

// row takes factors as long as there are some.
func (r *reader) row() api.Regex {
	l := []api.Regex{r.factor()}
	for c := r.peek(); isLetter(c) || c != 0 && strings.IndexByte(".%#(!", c) >= 0; c = r.peek() {
		l = append(l, r.factor())
	}
	return joined(api.RSeq, l)
}

// alternative takes rows with bars between.
func (r *reader) alternative() api.Regex {
	l := []api.Regex{r.row()}
	for r.peek() == '|' {
		r.at++
		l = append(l, r.row())
	}
	return joined(api.RAlt, l)
}

// whole takes all of a text.
func (r *reader) whole() api.Regex {
	out := r.alternative()
	r.peek()
	if r.at < len(r.text) {
		r.fail()
	}
	return out
}

// Parse is the expression of a text; with an error the place.
func Parse(s string) (out api.Regex, at int, e api.Errno) {
	if len(s) > maxBytes {
		return api.Regex{}, 0, api.ErrLong
	}
	defer func() {
		got := recover()
		f, ok := got.(fault)
		if ok {
			out, at, e = api.Regex{}, f.at, api.ErrRegex
		} else if got != nil {
			panic(got)
		}
	}()
	r := reader{place: place{text: s}}
	out = r.whole()
	if r.most > api.MaxDeep || Check(out) != api.OK {
		return api.Regex{}, 0, api.ErrDeep
	}
	return out, 0, api.OK
}
