// Package bits is layer 1: sets of facts as bits.
package bits

import (
	"iter"
	"math/bits"

	"stackyard/api"
)

// members tells those of a set, rising.
func members(s uint64) iter.Seq[int] {
	return func(yield func(int) bool) {
		for ; s != 0; s &= s - 1 {
			if !yield(bits.TrailingZeros64(s)) {
				return
			}
		}
	}
}

// mask is the set of the first n, n from 0 to 64.
func mask(n int) uint64 { return 1<<uint(n) - 1 }

// within tells whether a number is from least to most.
func within(n, least, most int) bool { return n >= least && n <= most }

// Full is the set of the first n.
func Full(n int) (uint64, api.Errno) {
	if !within(n, 0, api.MaxBits) {
		return 0, api.ErrBit
	}
	return mask(n), api.OK
}

// Of is a set of some.
func Of(l ...int) (uint64, api.Errno) {
	var s uint64
	for _, i := range l {
		if !within(i, 0, api.MaxBits-1) {
			return 0, api.ErrBit
		}
		s |= 1 << uint(i)
	}
	return s, api.OK
}

// List is a set's, rising.
func List(s uint64) []int {
	var l []int
	for i := range members(s) {
		l = append(l, i)
	}
	return l
}

// Count is how many a set has.
func Count(s uint64) int { return bits.OnesCount64(s) }

// Has tells whether a set has one.
func Has(s uint64, i int) bool {
	return within(i, 0, api.MaxBits-1) && s>>uint(i)&1 == 1
}

// Next is the least one of a set from a place on.
func Next(s uint64, from int) (int, bool) {
	if from > api.MaxBits-1 {
		return 0, false
	}
	rest := s &^ mask(max(from, 0))
	if rest == 0 {
		return 0, false
	}
	return bits.TrailingZeros64(rest), true
}

// Move is a set whose every one is so many places further, among the first n; what goes beyond is gone.
func Move(s uint64, by, n int) (uint64, api.Errno) {
	if !within(n, 0, api.MaxBits) || !within(by, -api.MaxBits, api.MaxBits) {
		return 0, api.ErrBit
	}
	if by < 0 {
		return s >> uint(-by) & mask(n), api.OK
	}
	return s << uint(by) & mask(n), api.OK
}

// Field is n bits of a set from a place on, as a number with a sign.
func Field(s uint64, at, n int) (int64, api.Errno) {
	if !within(n, 1, api.MaxBits) || !within(at, 0, api.MaxBits-n) {
		return 0, api.ErrBit
	}
	top := s << uint(api.MaxBits-at-n)
	return int64(top) >> uint(api.MaxBits-n), api.OK
}
