package tests

import (
	"slices"
	"strings"
	"testing"

	"loop.example/s0059/impl"
)

const allSigns = "+-*/<>=!&|^~?:@%$."

func prefix(text string, level int) impl.Op {
	return impl.Op{Text: text, Kind: impl.KindPrefix, Level: level}
}

func infix(text string, level int, side int) impl.Op {
	return impl.Op{Text: text, Kind: impl.KindInfix, Level: level, Side: side}
}

func postfix(text string, level int) impl.Op {
	return impl.Op{Text: text, Kind: impl.KindPostfix, Level: level}
}

func table(ops ...impl.Op) impl.Table {
	return impl.Table{Ops: ops}
}

// distinct gives n well-formed prefix operators, no two with the same text.
func distinct(n int) []impl.Op {
	var ops []impl.Op
	for i := range n {
		text := string(allSigns[i/18/18%18]) + string(allSigns[i/18%18]) + string(allSigns[i%18])
		ops = append(ops, prefix(text, 1+i%impl.MaxLevel))
	}
	return ops
}

// illFormed has operators that break the form in one way each.
func illFormed() []impl.Op {
	return []impl.Op{
		prefix("", 1),
		prefix(strings.Repeat("+", impl.MaxSigns+1), 1),
		prefix("a", 1),
		prefix("+ ", 1),
		prefix(" +", 1),
		prefix("+_-", 1),
		prefix("(", 1),
		prefix("+\x00", 1),
		prefix("\xff", 1),
		prefix("÷", 1),
		prefix("+", 0),
		prefix("+", -1),
		prefix("+", impl.MaxLevel+1),
		postfix("!", 0),
		postfix("!", impl.MaxLevel+1),
		infix("*", 0, impl.SideLeft),
		infix("*", impl.MaxLevel+1, impl.SideRight),
		{Text: "+", Kind: impl.KindPrefix, Level: 1, Side: impl.SideLeft},
		{Text: "+", Kind: impl.KindPrefix, Level: 1, Side: impl.SideRight},
		{Text: "+", Kind: impl.KindPrefix, Level: 1, Side: impl.SideNone},
		{Text: "+", Kind: impl.KindPrefix, Level: 1, Side: -1},
		{Text: "+", Kind: impl.KindPostfix, Level: 1, Side: impl.SideLeft},
		{Text: "+", Kind: impl.KindPostfix, Level: 1, Side: impl.SideRight},
		{Text: "+", Kind: impl.KindPostfix, Level: 1, Side: impl.SideNone},
		{Text: "+", Kind: impl.KindPostfix, Level: 1, Side: 4},
		infix("+", 1, 0),
		infix("+", 1, 4),
		infix("+", 1, -1),
		{Text: "+", Kind: 0, Level: 1},
		{Text: "+", Kind: 4, Level: 1},
		{Text: "+", Kind: -1, Level: 1},
		{Text: "+", Kind: 0, Level: 1, Side: impl.SideLeft},
		{Text: "+", Kind: 4, Level: 1, Side: impl.SideLeft},
		{},
	}
}

// eachList hands over every list of at most most elements of the pool.
func eachList[T any](pool []T, most int, do func([]T)) {
	var grow func(list []T)
	grow = func(list []T) {
		do(slices.Clone(list))
		if len(list) == most {
			return
		}
		for _, element := range pool {
			grow(append(slices.Clone(list), element))
		}
	}
	grow(nil)
}

func wantCode(t *testing.T, what string, ops []impl.Op, code int) {
	t.Helper()
	if got := impl.TableOk(impl.Table{Ops: ops}); got != code {
		t.Errorf("%q: code %d, not %d", what, got, code)
	}
}

func wantOps(t *testing.T, what string, got impl.Table, want []impl.Op) {
	t.Helper()
	if !slices.Equal(got.Ops, want) {
		t.Errorf("%s: %#v, not %#v", what, got.Ops, want)
	}
}
