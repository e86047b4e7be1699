package driver

import (
	"strings"

	"stackyard/api"
	"stackyard/regex"
)

// The words with which questions begin.
const (
	wReach = "reach"
	wTaint = "taint"
	wConst = "const"
	wLeaks = "leaks"
	wDead  = "dead"
)

const blanks = "\t\r "

// fault is what is wrong with a text of questions, and where.
type fault struct {
	line, col int
	errno     api.Errno
}

// rest is what is left of a line, from a place on.
type rest struct {
	text string
	at   int
}

// skip goes on behind blanks.
func (r *rest) skip() {
	for r.at < len(r.text) && strings.IndexByte(blanks, r.text[r.at]) >= 0 {
		r.at++
	}
}

// until takes all up to one of some bytes, or the end.
func (r *rest) until(bytes string) string {
	from := r.at
	for r.at < len(r.text) && strings.IndexByte(bytes, r.text[r.at]) < 0 {
		r.at++
	}
	return r.text[from:r.at]
}

// reader reads one line with a question.
type reader struct {
	rest
	line, first int
}

// fail stops the reading: the line is no question.
func (r *reader) fail() { panic(fault{r.line, r.first + 1, api.ErrAsk}) }

// isName tells whether a text is a name of chapter 7.
func isName(s string) bool {
	return regex.Check(api.Regex{Op: api.RName, Name: s}) == api.OK
}

// kindOf is what a word asks; 0: nothing.
func kindOf(word string) api.AskKind {
	switch word {
	case wReach:
		return api.AskReach
	case wTaint:
		return api.AskTaint
	case wConst:
		return api.AskConst
	case wLeaks:
		return api.AskLeaks
	case wDead:
		return api.AskDead
	}
	return 0
}

// question reads the line.
func (r *reader) question() api.Ask {
	a := api.Ask{Line: r.line, Kind: kindOf(r.until(blanks))}
	if a.Kind == 0 {
		r.fail()
	}
	r.skip()
	if a.Kind == api.AskLeaks || a.Kind == api.AskDead {
		if r.at < len(r.text) {
			r.fail()
		}
		return a
	}
	a.Point = r.until(blanks + ":")
	r.skip()
	if !isName(a.Point) || r.at == len(r.text) || r.text[r.at] != ':' {
		r.fail()
	}
	r.at++
	lang, at, e := regex.Parse(r.text[r.at:])
	if e != api.OK {
		panic(fault{r.line, r.at + at + 1, e})
	}
	a.Lang = lang
	return a
}

// questions reads all lines.
func questions(s string) []api.Ask {
	var l []api.Ask
	for i, line := range strings.Split(s, "\n") {
		r := reader{rest: rest{text: strings.TrimRight(line, blanks)}, line: i + 1}
		r.skip()
		r.first = r.at
		if r.at == len(r.text) {
			continue
		}
		if len(l) == api.MaxAsks {
			panic(fault{r.line, 1, api.ErrMany})
		}
		l = append(l, r.question())
	}
	return l
}

// Asks: the questions of a text.
func Asks(s string) (l []api.Ask, line, col int, e api.Errno) {
	if len(s) > api.MaxText {
		return nil, 0, 0, api.ErrLong
	}
	defer func() {
		got := recover()
		f, ok := got.(fault)
		if ok {
			l, line, col, e = nil, f.line, f.col, f.errno
		} else if got != nil {
			panic(got)
		}
	}()
	return questions(s), 0, 0, api.OK
}

// wordOf is the word that asks something; empty: there is none.
func wordOf(k api.AskKind) string {
	switch k {
	case api.AskReach:
		return wReach
	case api.AskTaint:
		return wTaint
	case api.AskConst:
		return wConst
	case api.AskLeaks:
		return wLeaks
	case api.AskDead:
		return wDead
	}
	return ""
}

// mayBe tells whether a question may be.
func mayBe(a api.Ask) bool {
	switch a.Kind {
	case api.AskReach, api.AskTaint, api.AskConst:
		return isName(a.Point) && regex.Check(a.Lang) == api.OK
	case api.AskLeaks, api.AskDead:
		return a.Point == "" && regex.Same(a.Lang, api.Regex{})
	}
	return false
}

// Text: a question's text.
func Text(a api.Ask) (string, api.Errno) {
	if !mayBe(a) {
		return "", api.ErrAsk
	}
	word := wordOf(a.Kind)
	if a.Point == "" {
		return word, api.OK
	}
	lang, _ := regex.Print(a.Lang)
	return strings.Join([]string{word, a.Point, ":", lang}, " "), api.OK
}
