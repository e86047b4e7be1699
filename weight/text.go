package weight

import (
	"strconv"
	"strings"

	"stackyard/api"
	"stackyard/bits"
)

const zeroText = "zero"

func factsText(f api.Facts) string {
	rows := make([]string, len(f.Rows))
	for i, row := range f.Rows {
		rows[i] = bits.Text(row)
	}
	return bits.Text(f.Gen) + ":" + strings.Join(rows, ";")
}

func cellText(c api.Cell) string {
	s := bits.Text(c.From)
	switch c.Kind {
	case api.CellOne:
		s += "+" + strconv.FormatInt(c.K, 10)
	case api.CellMany:
		s += "*"
	}
	return s
}

func cellsText(l []api.Cell) string {
	if len(l) == 0 {
		return "."
	}
	texts := make([]string, len(l))
	for i, c := range l {
		texts[i] = cellText(c)
	}
	return strings.Join(texts, ";")
}

// text is the text of a weight of a space.
func text(s api.Space, w api.Weight) string {
	if w.Zero {
		return zeroText
	}
	switch s.Tag {
	case api.Cost:
		return strconv.Itoa(w.Cost)
	case api.FactsTag:
		return factsText(w.Facts)
	case api.CellsTag:
		return cellsText(w.Cells)
	case api.Pair:
		return "[" + text(s.Parts[0], w.Parts[0]) + "|" + text(s.Parts[1], w.Parts[1]) + "]"
	}
	return "one"
}

// Text is a weight's text.
func Text(s api.Space, w api.Weight) (string, api.Errno) {
	if e := checkAll(s, w); e != api.OK {
		return "", e
	}
	return text(s, w), api.OK
}

// fault is what a reader stops with.
type fault struct{ errno api.Errno }

// need stops the reading, where what is needed does not hold.
func need(ok bool) {
	if !ok {
		panic(fault{api.ErrWeight})
	}
}

// split takes a text apart in just so many pieces.
func split(t, between string, n int) []string {
	l := strings.SplitN(t, between, n+1)
	need(len(l) == n)
	return l
}

func readSet(t string) uint64 {
	set, _, e := bits.Read(t)
	need(e == api.OK)
	return set
}

func readFacts(n int, t string) api.Facts {
	gen, rest, found := strings.Cut(t, ":")
	need(found)
	f := api.Facts{Gen: readSet(gen)}
	if n == 0 {
		need(rest == "")
		return f
	}
	for _, row := range split(rest, ";", n) {
		f.Rows = append(f.Rows, readSet(row))
	}
	return f
}

func readCell(t string) api.Cell {
	from, rest, found := strings.Cut(t, "}")
	need(found)
	c := api.Cell{From: readSet(from + "}")}
	switch {
	case rest == "":
	case rest == "*":
		c.Kind = api.CellMany
	default:
		need(rest[0] == '+')
		k, err := strconv.ParseInt(rest[1:], 10, 64)
		need(err == nil)
		c.Kind, c.K = api.CellOne, k
	}
	return c
}

func readCells(n int, t string) []api.Cell {
	if n == 0 {
		need(t == ".")
		return nil
	}
	var l []api.Cell
	for _, c := range split(t, ";", n) {
		l = append(l, readCell(c))
	}
	return l
}

func readPair(s api.Space, t string) api.Weight {
	need(len(t) > 1 && t[0] == '[' && t[len(t)-1] == ']')
	l := split(t[1:len(t)-1], "|", 2)
	return pair(read(s.Parts[0], l[0]), read(s.Parts[1], l[1]))
}

// read is what a text of a weight of a space may mean; whether it is that weight's own text stays to be seen.
func read(s api.Space, t string) api.Weight {
	var w api.Weight
	switch {
	case s.Tag == api.Pair:
		w = readPair(s, t)
	case t == zeroText:
		w.Zero = true
	case s.Tag == api.Cost:
		c, err := strconv.Atoi(t)
		need(err == nil)
		w.Cost = c
	case s.Tag == api.FactsTag:
		w.Facts = readFacts(s.Dim, t)
	case s.Tag == api.CellsTag:
		w.Cells = readCells(s.Dim, t)
	}
	return w
}

// Read is the weight of a text.
func Read(s api.Space, t string) (w api.Weight, e api.Errno) {
	if e := Space(s); e != api.OK {
		return api.Weight{}, e
	}
	defer func() {
		r := recover()
		f, ok := r.(fault)
		if ok {
			w, e = api.Weight{}, f.errno
		} else if r != nil {
			panic(r)
		}
	}()
	w = read(s, t)
	need(isWeight(s, w) && text(s, w) == t)
	return w, api.OK
}
