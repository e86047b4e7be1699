package pds

import (
	"iter"
	"strconv"
	"strings"

	"stackyard/api"
	"stackyard/symbols"
	"stackyard/weight"
)

const (
	spaceWord   = "space"
	statesWord  = "states"
	symbolsWord = "symbols"
)

// tagWord is the word of a kind of space that has a number behind it; none of others.
func tagWord(t api.Tag) string {
	switch t {
	case api.Cost:
		return "cost"
	case api.FactsTag:
		return "facts"
	case api.CellsTag:
		return "cells"
	}
	return ""
}

// spaceText is the text of a space that may be.
func spaceText(s api.Space) string {
	switch s.Tag {
	case api.Bool:
		return "bool"
	case api.Pair:
		return "pair (" + spaceText(s.Parts[0]) + ") (" + spaceText(s.Parts[1]) + ")"
	}
	return tagWord(s.Tag) + " " + strconv.Itoa(s.Dim)
}

// ruleText is a rule's line.
func ruleText(p api.Pds, n api.Names, r api.Rule) string {
	l := []string{n.States[r.P], n.Symbols[r.G], "->", n.States[r.Q]}
	for _, g := range r.W {
		l = append(l, n.Symbols[g])
	}
	f, _ := weight.Text(p.Space, r.F)
	return strings.Join(append(l, ":", f), " ")
}

// listText is a line of a word and names.
func listText(word string, names []string) string {
	return strings.Join(append([]string{word}, names...), " ")
}

func namesMayBe(p api.Pds, n api.Names) bool {
	_, states := symbols.Number(n.States)
	_, syms := symbols.Number(n.Symbols)
	return states && syms && len(n.States) == p.States && len(n.Symbols) == p.Symbols
}

// Print is a system's text.
func Print(p api.Pds, n api.Names) (string, api.Errno) {
	if e := Check(p); e != api.OK {
		return "", e
	}
	if !namesMayBe(p, n) {
		return "", api.ErrArg
	}
	var b strings.Builder
	put := func(line string) {
		b.WriteString(line)
		b.WriteByte(10)
	}
	put(spaceWord + " " + spaceText(p.Space))
	put(listText(statesWord, n.States))
	put(listText(symbolsWord, n.Symbols))
	for _, r := range p.Rules {
		if b.Len() > api.MaxText {
			break
		}
		put(ruleText(p, n, r))
	}
	if b.Len() > api.MaxText {
		return "", api.ErrLong
	}
	return b.String(), api.OK
}

// fault is the number of the line at which a text is none.
type fault struct{ line int }

// lines tells the lines of a text, with their numbers; what stands behind the last byte 10 is one, too.
func lines(s string) iter.Seq2[int, string] {
	return func(yield func(int, string) bool) {
		for i := 0; s != ""; i++ {
			line, rest, _ := strings.Cut(s, "\n")
			if !yield(i, line) {
				return
			}
			s = rest
		}
	}
}

// number reads decimal digits; what they are not is seen when all is printed again.
func number(s string) int {
	n, err := strconv.Atoi(s)
	if err != nil {
		return -1
	}
	return n
}

// plainSpace is the space without parts of which a text may be.
func plainSpace(t string) api.Space {
	if t == "bool" {
		return api.Space{Tag: api.Bool}
	}
	word, digits, _ := strings.Cut(t, " ")
	for _, tag := range []api.Tag{api.Cost, api.FactsTag, api.CellsTag} {
		if word == tagWord(tag) {
			return api.Space{Tag: tag, Dim: number(digits)}
		}
	}
	return api.Space{}
}

// readSpace is the space of a text, if it is one's.
func readSpace(t string) (api.Space, bool) {
	s := plainSpace(t)
	if inner, isPair := strings.CutPrefix(t, "pair ("); isPair {
		first, second, _ := strings.Cut(strings.TrimSuffix(inner, ")"), ") (")
		s = api.Space{Tag: api.Pair, Parts: []api.Space{plainSpace(first), plainSpace(second)}}
	}
	return s, weight.Space(s) == api.OK && spaceText(s) == t
}

// reader takes a system's lines, one by one.
type reader struct {
	pds      api.Pds
	names    api.Names
	line     int
	stateOf  map[string]int
	symbolOf map[string]int
}

// need stops the reading at the line at hand, where what is needed does not hold.
func (r *reader) need(ok bool) {
	if !ok {
		panic(fault{r.line})
	}
}

// list reads a line of a word and names.
func (r *reader) list(line, word string, most int) ([]string, map[string]int) {
	l := strings.Split(line, " ")
	r.need(l[0] == word && len(l)-1 <= most)
	names := append([]string{}, l[1:]...)
	numbers, ok := symbols.Number(names)
	r.need(ok)
	return names, numbers
}

// known is the number of a name.
func (r *reader) known(numbers map[string]int, name string) int {
	n, ok := numbers[name]
	r.need(ok)
	return n
}

// rule reads a rule's line.
func (r *reader) rule(line string) {
	l := strings.Split(line, " ")
	n := len(l)
	r.need(len(r.pds.Rules) < api.MaxRules && n >= 6 && n-6 <= api.MaxWord && l[2] == "->" && l[n-2] == ":")
	rule := api.Rule{P: r.known(r.stateOf, l[0]), G: r.known(r.symbolOf, l[1]), Q: r.known(r.stateOf, l[3])}
	for _, w := range l[4 : n-2] {
		rule.W = append(rule.W, r.known(r.symbolOf, w))
	}
	f, e := weight.Read(r.pds.Space, l[n-1])
	r.need(e == api.OK)
	rule.F = f
	r.pds.Rules = append(r.pds.Rules, rule)
}

// take reads the line at hand.
func (r *reader) take(line string) {
	switch r.line {
	case 0:
		t, ok := strings.CutPrefix(line, spaceWord+" ")
		r.need(ok)
		r.pds.Space, ok = readSpace(t)
		r.need(ok)
	case 1:
		r.names.States, r.stateOf = r.list(line, statesWord, api.MaxStates)
		r.pds.States = len(r.names.States)
	case 2:
		r.names.Symbols, r.symbolOf = r.list(line, symbolsWord, api.MaxSymbols)
		r.pds.Symbols = len(r.names.Symbols)
	default:
		r.rule(line)
	}
}

// whole reads all of a text.
func (r *reader) whole(s string) {
	count := 0
	for i, line := range lines(s) {
		r.line = i
		r.take(line)
		count = i + 1
	}
	r.line = count
	r.need(count >= 3)
	r.line = count - 1
	r.need(strings.HasSuffix(s, "\n"))
}

// Read is the system of a text; with an error the number of the line.
func Read(s string) (p api.Pds, n api.Names, line int, e api.Errno) {
	if len(s) > api.MaxText {
		return api.Pds{}, api.Names{}, 0, api.ErrLong
	}
	defer func() {
		got := recover()
		f, ok := got.(fault)
		if ok {
			p, n, line, e = api.Pds{}, api.Names{}, f.line, api.ErrLine
		} else if got != nil {
			panic(got)
		}
	}()
	var r reader
	r.whole(s)
	return r.pds, r.names, 0, api.OK
}
