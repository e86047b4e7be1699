package steps

import (
	"math"
	"strconv"

	"stackyard/api"
)

// Text: a configuration's text.
func Text(c api.Conf) string {
	b := strconv.AppendInt(nil, int64(c.P), 10)
	for _, g := range c.W {
		b = append(b, ' ')
		b = strconv.AppendInt(b, int64(g), 10)
	}
	return string(b)
}

// reader goes through a configuration's text: inside tells that it stands in the last number.
type reader struct {
	numbers []int
	inside  bool
}

// digit takes one more digit.
func (r *reader) digit(d int) bool {
	if !r.inside {
		r.numbers = append(r.numbers, d)
		r.inside = true
		return true
	}
	last := &r.numbers[len(r.numbers)-1]
	if *last == 0 || 10**last+d > math.MaxInt32 {
		return false
	}
	*last = 10**last + d
	return true
}

// take goes on by a rune: may it stand there?
func (r *reader) take(c rune) bool {
	if c >= '0' && c <= '9' {
		return r.digit(int(c - '0'))
	}
	fits := c == ' ' && r.inside
	r.inside = false
	return fits
}

// Read: the configuration of a text.
func Read(s string) (api.Conf, int, api.Errno) {
	var r reader
	for i, c := range s {
		if !r.take(c) {
			return api.Conf{}, i, api.ErrLine
		}
	}
	if !r.inside {
		return api.Conf{}, len(s), api.ErrLine
	}
	return api.Conf{P: r.numbers[0], W: r.numbers[1:]}, 0, api.OK
}
