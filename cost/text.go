package cost

import (
	"strconv"

	"stackyard/api"
)

const noneText = "none"

// Text: a cost's text.
func Text(limit, c int) (string, api.Errno) {
	if e := checkAll(limit, c); e != api.OK {
		return "", e
	}
	if c == api.NoCost {
		return noneText, api.OK
	}
	return strconv.Itoa(c), api.OK
}

// What a reader has read so far.
const (
	readNothing = iota
	readDigits
	readLetters
)

// reader goes through a cost's text: c is what its digits are worth, letters how many of "none" there are.
type reader struct {
	limit, state, c, letters int
}

// digit takes one more digit, if what it makes is still a cost under the cap.
func (r *reader) digit(d int) bool {
	if r.state == readLetters || r.state == readDigits && r.c == 0 || 10*r.c+d > r.limit {
		return false
	}
	r.state = readDigits
	r.c = 10*r.c + d
	return true
}

// letter takes one more letter of "none".
func (r *reader) letter(c rune) bool {
	if r.state == readDigits || r.letters == len(noneText) || rune(noneText[r.letters]) != c {
		return false
	}
	r.state = readLetters
	r.letters++
	return true
}

// done tells whether what was read is a cost's whole text.
func (r *reader) done() bool {
	return r.state == readDigits || r.letters == len(noneText)
}

// Read: the cost of a text.
func Read(limit int, s string) (int, int, api.Errno) {
	if e := checkAll(limit); e != api.OK {
		return 0, 0, e
	}
	r := reader{limit: limit}
	for i, c := range s {
		fits := false
		if c >= '0' && c <= '9' {
			fits = r.digit(int(c - '0'))
		} else {
			fits = r.letter(c)
		}
		if !fits {
			return 0, i, api.ErrText
		}
	}
	if !r.done() {
		return 0, len(s), api.ErrText
	}
	if r.state == readLetters {
		return api.NoCost, 0, api.OK
	}
	return r.c, 0, api.OK
}
