package tests

import (
	"slices"
	"testing"

	"loop.example/s0059/impl"
)

func TestUnionOrder(t *testing.T) {
	p, q, r, s := prefix("-", 9), infix("+", 6, impl.SideLeft), postfix("!", 10), infix("=", 4, impl.SideNone)
	cases := []struct {
		what       string
		a, b, want []impl.Op
	}{
		{"both empty", nil, []impl.Op{}, nil},
		{"first empty", nil, []impl.Op{q, p}, []impl.Op{q, p}},
		{"second empty", []impl.Op{q, p}, nil, []impl.Op{q, p}},
		{"nothing in common", []impl.Op{s, p}, []impl.Op{r, q}, []impl.Op{s, p, r, q}},
		{"twice in the first", []impl.Op{q, p, q, q, p}, nil, []impl.Op{q, p}},
		{"twice in the second", nil, []impl.Op{q, p, q, q, p}, []impl.Op{q, p}},
		{"in both", []impl.Op{p, q}, []impl.Op{r, q, s, p}, []impl.Op{p, q, r, s}},
		{"the same table", []impl.Op{r, q}, []impl.Op{r, q}, []impl.Op{r, q}},
		{"the other way round", []impl.Op{r, q}, []impl.Op{q, r}, []impl.Op{r, q}},
		{"all at once", []impl.Op{q, p, q}, []impl.Op{r, p, r, s, q}, []impl.Op{q, p, r, s}},
	}
	for _, c := range cases {
		wantOps(t, c.what, impl.Union(table(c.a...), table(c.b...)), c.want)
	}
}

func TestUnionKeepsWhatDiffersInOneField(t *testing.T) {
	o := infix("+", 6, impl.SideLeft)
	text, kind, level, side := o, o, o, o
	text.Text, kind.Kind, level.Level, side.Side = "++", impl.KindPrefix, 7, impl.SideRight
	for _, other := range []impl.Op{text, kind, level, side} {
		wantOps(t, "in two tables", impl.Union(table(o), table(other)), []impl.Op{o, other})
		wantOps(t, "in the first", impl.Union(table(other, o, other), table()), []impl.Op{other, o})
		wantOps(t, "in the second", impl.Union(table(), table(o, other, o)), []impl.Op{o, other})
	}
	all := []impl.Op{o, text, kind, level, side}
	wantOps(t, "all", impl.Union(table(all...), table(all...)), all)
}

func TestUnionOfTablesThatAreNotValid(t *testing.T) {
	bad := illFormed()
	wantOps(t, "ill formed in the first", impl.Union(table(bad...), table()), bad)
	wantOps(t, "ill formed in the second", impl.Union(table(), table(bad...)), bad)
	wantOps(t, "ill formed in both", impl.Union(table(bad...), table(bad...)), bad)
	many := distinct(3 * impl.MaxOps)
	a, b := many[:2*impl.MaxOps], many[impl.MaxOps:]
	wantOps(t, "more than MaxOps", impl.Union(table(a...), table(b...)), many)
	mixed := []impl.Op{infix("+", 6, impl.SideLeft), infix("=", 6, impl.SideNone), postfix("+", 6)}
	wantOps(t, "rivals and two sorts", impl.Union(table(mixed[:1]...), table(mixed...)), mixed)
}

// wordedUnion says Union as the document words it, without a map.
func wordedUnion(a, b []impl.Op) []impl.Op {
	var out []impl.Op
	for _, o := range slices.Concat(a, b) {
		if !slices.Contains(out, o) {
			out = append(out, o)
		}
	}
	return out
}

func TestUnionOfAllSmallTables(t *testing.T) {
	pool := []impl.Op{{}, prefix("+", 1), infix("+", 1, impl.SideLeft), infix("+", 1, impl.SideNone)}
	var lists [][]impl.Op
	eachList(pool, 4, func(ops []impl.Op) { lists = append(lists, ops) })
	for _, a := range lists {
		for _, b := range lists {
			got := impl.Union(table(a...), table(b...))
			if want := wordedUnion(a, b); !slices.Equal(got.Ops, want) {
				t.Fatalf("%#v and %#v: %#v, not %#v", a, b, got.Ops, want)
			}
		}
	}
}

// roomy gives a table with room behind its last operator, and all of its memory.
func roomy(ops []impl.Op) (impl.Table, []impl.Op) {
	memory := append(slices.Clone(ops), slices.Repeat([]impl.Op{prefix("?", 3)}, 20)...)
	return impl.Table{Ops: memory[:len(ops)]}, memory
}

func TestUnionSharesNoMemory(t *testing.T) {
	p, q, r := prefix("-", 9), infix("+", 6, impl.SideLeft), postfix("!", 10)
	lists := [][]impl.Op{nil, {p}, {p, q}, {q, p, q}, {q, q}, {r}, {r, p, q}}
	for _, x := range lists {
		for _, y := range lists {
			a, aMemory := roomy(x)
			b, bMemory := roomy(y)
			aKept, bKept := slices.Clone(aMemory), slices.Clone(bMemory)
			got := impl.Union(a, b)
			all := got.Ops[:cap(got.Ops)]
			for i := range all {
				all[i] = impl.Op{Text: "changed"}
			}
			if !slices.Equal(aMemory, aKept) || !slices.Equal(bMemory, bKept) {
				t.Errorf("%#v and %#v: an argument has changed", x, y)
			}
			if len(a.Ops) != len(x) || len(b.Ops) != len(y) {
				t.Errorf("%#v and %#v: an argument has another length", x, y)
			}
		}
	}
}

func TestUnionOfATableWithItself(t *testing.T) {
	a, memory := roomy([]impl.Op{prefix("-", 9), postfix("!", 10), prefix("-", 9)})
	kept := slices.Clone(memory)
	got := impl.Union(a, a)
	wantOps(t, "itself", got, []impl.Op{prefix("-", 9), postfix("!", 10)})
	if !slices.Equal(memory, kept) {
		t.Errorf("the argument has changed")
	}
	for i := range memory {
		memory[i] = impl.Op{}
	}
	wantOps(t, "after a change of the argument", got, []impl.Op{prefix("-", 9), postfix("!", 10)})
}
