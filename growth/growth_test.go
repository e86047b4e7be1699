package growth

import (
	"testing"

	"stackyard/api"
)

func TestTable(t *testing.T) {
	tab := New(api.Space{Tag: api.Cost, Dim: 9})
	a, b := Arrow{0, 1, 2}, Arrow{0, 1, 3}
	put := func(x Arrow, c int, want bool) {
		t.Helper()
		if tab.Put(x, api.Weight{Cost: c}, 0, nil) != want {
			t.Error(x, c)
		}
	}
	if tab.Put(a, api.Weight{Zero: true}, 0, nil) {
		t.Error("zero")
	}
	put(a, 5, true)
	put(a, 6, false)
	put(b, 9, true)
	put(a, 3, true)
	if n, ok := tab.Find(b); n != 1 || !ok || len(tab.From(0, 1)) != 2 || len(tab.From(0, 0)) != 0 {
		t.Error(n, ok)
	}
	if tab.Came(0).Cost != 5 || tab.Came(2).Cost != 3 || tab.List[0].Last != 2 {
		t.Error(tab.List)
	}
	take := tab.Taker([]int{-1})
	for _, want := range []int{1, 0} {
		if n, ok := take(); n != want || !ok {
			t.Error(n, ok)
		}
	}
	if _, ok := take(); ok {
		t.Error("nothing is left")
	}
	out := tab.Auto(api.Auto{Space: api.Space{Tag: api.Cost, Dim: 9}, Symbols: 2}, 4)
	if len(out.Trans) != 2 || out.Trans[0].W.Cost != 3 || out.States != 4 {
		t.Error(out)
	}
	if New(api.Space{Tag: api.Cost, Dim: 9}).Begins(out, tab.Log) != 0 {
		t.Error("Begins")
	}
	given := []api.Cause{{Sym: 1, To: 2, Rule: -1}, {Sym: 1, To: 3, Rule: -1}, {}}
	if New(api.Space{Tag: api.Cost, Dim: 9}).Begins(out, given) != -1 || New(api.Space{Tag: api.Cost, Dim: 9}).Begins(out, given[:1]) != 1 {
		t.Error("Begins")
	}
}
