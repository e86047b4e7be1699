package symbols

import (
	"strings"
	"testing"
)

func TestNumber(t *testing.T) {
	if m, ok := Number([]string{"b", "a"}); !ok || m["b"] != 0 || m["a"] != 1 || len(m) != 2 {
		t.Error(m, ok)
	}
	if m, ok := Number(nil); !ok || len(m) != 0 {
		t.Error(m, ok)
	}
	for _, l := range [][]string{{"a", "a"}, {"a", ""}, {"9"}, {"a b"}, {strings.Repeat("a", 65)}} {
		if _, ok := Number(l); ok {
			t.Error(l)
		}
	}
}
