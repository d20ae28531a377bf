package tests

import (
	"strings"
	"testing"

	"loop.example/s0059/impl"
)

func TestHoles(t *testing.T) {
	for _, l := range []int{1, 2, 6, 500, impl.MaxLevel - 1, impl.MaxLevel} {
		for _, text := range []string{"+", "<=>", strings.Repeat("~", impl.MaxSigns)} {
			cases := []struct {
				o             impl.Op
				first, second int
			}{
				{prefix(text, l), l, 0},
				{postfix(text, l), l, 0},
				{infix(text, l, impl.SideLeft), l, l + 1},
				{infix(text, l, impl.SideRight), l + 1, l},
				{infix(text, l, impl.SideNone), l + 1, l + 1},
			}
			for _, c := range cases {
				if got := impl.Hole(c.o, false); got != c.first {
					t.Errorf("%#v, first hole: %d, not %d", c.o, got, c.first)
				}
				if got := impl.Hole(c.o, true); got != c.second {
					t.Errorf("%#v, second hole: %d, not %d", c.o, got, c.second)
				}
			}
		}
	}
}

func TestHolesOfIllFormedOperators(t *testing.T) {
	for _, o := range illFormed() {
		for _, second := range []bool{false, true} {
			if got := impl.Hole(o, second); got != 0 {
				t.Errorf("%#v, %v: %d, not 0", o, second, got)
			}
		}
	}
}
