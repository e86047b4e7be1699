// Package symbols gives names their numbers; several layers number things by their names.
package symbols

import (
	"stackyard/api"
	"stackyard/regex"
)

// Number is the numbers of names, if each is one (chapter 7), and no two are alike.
func Number(names []string) (map[string]int, bool) {
	numbers := map[string]int{}
	for i, n := range names {
		if regex.Check(api.Regex{Op: api.RName, Name: n}) != api.OK {
			return nil, false
		}
		numbers[n] = i
	}
	return numbers, len(numbers) == len(names)
}
