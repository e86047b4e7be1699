package syntax

import (
	"strconv"
	"strings"

	"stackyard/api"
)

// simple is the text of a statement without blocks, but for its last sign.
func simple(s api.Stmt) string {
	switch s.Kind {
	case api.SSet:
		return s.X + " = " + strconv.FormatInt(s.K, 10)
	case api.SCopy:
		return s.X + " = " + s.Y
	case api.SAny:
		return s.X + " = *"
	case api.SMark:
		return wMark + " " + s.X
	case api.SClean:
		return wClean + " " + s.X
	case api.SSink:
		return wSink + " " + s.X
	case api.SAt:
		return wAt + " " + s.X
	case api.SReturn:
		return wReturn
	case api.SCall:
		if s.Y == "" {
			return wCall + " " + s.X
		}
		return wCall + " " + s.X + " " + wFrom + " " + s.Y
	}
	return wSkip
}

// Print: a program's own text.
func Print(p api.Program) (string, api.Errno) {
	if e := Check(p); e != api.OK {
		return "", e
	}
	var b strings.Builder
	line := func(deep int, text string) {
		b.WriteString(strings.Repeat("  ", deep))
		b.WriteString(text)
		b.WriteByte(10)
	}
	var block func(l []api.Stmt, deep int)
	block = func(l []api.Stmt, deep int) {
		for _, s := range l {
			begin := wLoop + " {"
			if s.Kind == api.SEither {
				begin = wEither + " {"
			}
			for _, kid := range s.Kids {
				line(deep, begin)
				block(kid, deep+1)
				begin = "} " + wOr + " {"
			}
			if len(s.Kids) > 0 {
				line(deep, "}")
			} else {
				line(deep, simple(s)+";")
			}
		}
	}
	if len(p.Vars) > 0 {
		line(0, wVar+" "+strings.Join(p.Vars, ", ")+";")
	}
	for _, proc := range p.Procs {
		line(0, wProc+" "+proc.Name+" {")
		block(proc.Body, 1)
		line(0, "}")
	}
	return b.String(), api.OK
}
