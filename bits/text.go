package bits

import (
	"strconv"

	"stackyard/api"
)

// Text is a set's text.
func Text(s uint64) string {
	b := []byte{'{'}
	for i := range members(s) {
		if len(b) > 1 {
			b = append(b, ',')
		}
		b = strconv.AppendInt(b, int64(i), 10)
	}
	return string(append(b, '}'))
}

// Where a reader of a set's text stands.
const (
	atStart = iota
	atFirst // behind the brace: a number or the end
	atNumber
	inNumber
	atEnd
)

// reader goes through a set's text: last is the number ahead of now, which is the number being read.
type reader struct {
	state     int
	last, now int
	set       uint64
}

// fits tells whether a number may stand behind the last one.
func (r *reader) fits(n int) bool { return n > r.last && n < api.MaxBits }

// grows tells whether a number that fits goes on from these digits, or is them.
func (r *reader) grows(n int) bool {
	if r.fits(n) {
		return true
	}
	for d := range 10 {
		if n > 0 && r.fits(10*n+d) {
			return true
		}
	}
	return false
}

// close takes the number that was being read into the set, if it may be there.
func (r *reader) close() bool {
	if !r.fits(r.now) {
		return false
	}
	r.set |= 1 << uint(r.now)
	r.last = r.now
	return true
}

// digit takes one more digit.
func (r *reader) digit(d int) bool {
	switch r.state {
	case atFirst, atNumber:
		r.now = d
	case inNumber:
		if r.now == 0 {
			return false
		}
		r.now = 10*r.now + d
	default:
		return false
	}
	r.state = inNumber
	return r.grows(r.now)
}

// take goes on by a byte: may it stand there?
func (r *reader) take(c byte) bool {
	switch {
	case c == '{' && r.state == atStart:
		r.state = atFirst
	case c == '}' && r.state == atFirst:
		r.state = atEnd
	case c == '}' && r.state == inNumber && r.close():
		r.state = atEnd
	case c == ',' && r.state == inNumber && r.now < api.MaxBits-1 && r.close():
		r.state = atNumber
	case c >= '0' && c <= '9':
		return r.digit(int(c - '0'))
	default:
		return false
	}
	return true
}

// Read is the set of a text; with an error the place.
func Read(s string) (uint64, int, api.Errno) {
	r := reader{last: -1}
	for i := range len(s) {
		if !r.take(s[i]) {
			return 0, i, api.ErrBitText
		}
	}
	if r.state != atEnd {
		return 0, len(s), api.ErrBitText
	}
	return r.set, 0, api.OK
}
