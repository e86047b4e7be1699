// Package ring is a space that may be, taken once, for layers that reckon with many of its weights.
package ring

import (
	"stackyard/api"
	"stackyard/weight"
)

// Ring reckons with weights that are of its space.
type Ring struct {
	space api.Space
	zero  api.Weight
}

// Of is the ring of a space that may be.
func Of(s api.Space) Ring {
	zero, _ := weight.Zero(s)
	return Ring{space: s, zero: zero}
}

// Zero is the space's, in new memory.
func (r Ring) Zero() api.Weight {
	w, _ := weight.Zero(r.space)
	return w
}

// One is the space's, in new memory.
func (r Ring) One() api.Weight {
	w, _ := weight.One(r.space)
	return w
}

// IsZero tells whether a weight is Zero.
func (r Ring) IsZero(w api.Weight) bool { return weight.Same(w, r.zero) }

// Plus is some weights combined.
func (r Ring) Plus(l ...api.Weight) api.Weight {
	w, _ := weight.Combine(r.space, l...)
	return w
}

// Times is some weights extended, in order.
func (r Ring) Times(l ...api.Weight) api.Weight {
	w, _ := weight.Extend(r.space, l...)
	return w
}

// Copy is a weight in new memory.
func (r Ring) Copy(w api.Weight) api.Weight { return r.Plus(w) }

// Below tells whether a weight adds nothing to another one.
func (r Ring) Below(a, b api.Weight) bool {
	ok, _ := weight.Below(r.space, a, b)
	return ok
}

// CopySpace is a space that may be in new memory.
func CopySpace(s api.Space) api.Space {
	var parts []api.Space
	for _, p := range s.Parts {
		parts = append(parts, CopySpace(p))
	}
	s.Parts = parts
	return s
}
