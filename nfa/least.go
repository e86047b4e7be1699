package nfa

import (
	"slices"

	"stackyard/api"
)

// lengths tells of each state how many symbols the shortest word has that leads from it to the end; -1: there is none.
func lengths(a api.Nfa) []int {
	back := newRunner(turned(a))
	far := make([]int, a.States)
	for i := range far {
		far[i] = -1
	}
	level := back.close([]int{a.End})
	for n := 0; len(level) > 0; n++ {
		var ahead []int
		for _, s := range level {
			if far[s] >= 0 {
				continue
			}
			far[s] = n
			for _, t := range back.out[s] {
				if t.Sym != noSymbol && a.Symbols > 0 && far[t.To] < 0 {
					ahead = append(ahead, t.To)
				}
			}
		}
		level = back.close(ahead)
	}
	return far
}

// leastSymbol is the least one by which some state at hand comes nearer to the end.
func leastSymbol(r *runner, at, far []int, left int) int {
	least := -1
	for _, s := range at {
		for _, t := range r.out[s] {
			if t.Sym == noSymbol || far[t.To] != left-1 {
				continue
			}
			if sym := max(t.Sym, 0); least < 0 || sym < least {
				least = sym
			}
		}
	}
	return least
}

// Least: the shortest word that is accepted.
func Least(a api.Nfa) ([]int, bool, api.Errno) {
	if e := Check(a); e != api.OK {
		return nil, false, e
	}
	far := lengths(a)
	if far[a.Start] < 0 {
		return nil, false, api.OK
	}
	r := newRunner(a)
	at := r.close([]int{a.Start})
	var word []int
	for left := far[a.Start]; left > 0; left-- {
		sym := leastSymbol(r, at, far, left)
		word = append(word, sym)
		at = slices.DeleteFunc(r.step(sym, at), func(s int) bool { return far[s] != left-1 })
	}
	return word, true, api.OK
}
