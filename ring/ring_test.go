package ring

import (
	"testing"

	"stackyard/api"
	"stackyard/weight"
)

func TestRing(t *testing.T) {
	s := api.Space{Tag: api.Pair, Parts: []api.Space{{Tag: api.Cost, Dim: 9}, {Tag: api.FactsTag, Dim: 1}}}
	r := Of(s)
	one, zero := r.One(), r.Zero()
	if r.IsZero(one) || !r.IsZero(zero) || !weight.Same(r.Plus(one, zero), one) || !r.IsZero(r.Times(one, zero)) || !r.Below(zero, one) || r.Below(one, zero) {
		t.Error(one, zero)
	}
	half := api.Weight{Parts: []api.Weight{{Zero: true}, one.Parts[1]}}
	if r.IsZero(half) {
		t.Error(half)
	}
	c := r.Copy(one)
	c.Parts[1].Facts.Rows[0] = 0
	if one.Parts[1].Facts.Rows[0] != 1 {
		t.Error("shared")
	}
}
