package tests

import (
	"slices"
	"strings"
	"testing"

	"loop.example/s0059/impl"
)

func TestTableWithoutOperators(t *testing.T) {
	wantCode(t, "nil", nil, 0)
	wantCode(t, "empty", []impl.Op{}, 0)
}

func TestTableOkSigns(t *testing.T) {
	for b := range 256 {
		code := 2
		if strings.IndexByte(allSigns, byte(b)) >= 0 {
			code = 0
		}
		one := string([]byte{byte(b)})
		for _, text := range []string{one, one + "+", "+" + one, "+" + one + "+"} {
			wantCode(t, "prefix "+text, []impl.Op{prefix(text, 1)}, code)
			wantCode(t, "infix "+text, []impl.Op{infix(text, 1, impl.SideNone)}, code)
			wantCode(t, "postfix "+text, []impl.Op{postfix(text, 1)}, code)
		}
	}
}

func TestTableOkLengthOfText(t *testing.T) {
	for n := range 2*impl.MaxSigns + 2 {
		code := 2
		if n >= 1 && n <= impl.MaxSigns {
			code = 0
		}
		text := strings.Repeat("=", n)
		wantCode(t, "prefix "+text, []impl.Op{prefix(text, 1)}, code)
		wantCode(t, "infix "+text, []impl.Op{infix(text, 1, impl.SideLeft)}, code)
		wantCode(t, "postfix "+text, []impl.Op{postfix(text, 1)}, code)
	}
	wantCode(t, "a long text", []impl.Op{prefix(strings.Repeat("=", 100000), 1)}, 2)
}

func TestTableOkLevel(t *testing.T) {
	codes := map[int]int{-1: 2, 0: 2, 1: 0, 2: 0, 500: 0, impl.MaxLevel - 1: 0, impl.MaxLevel: 0, impl.MaxLevel + 1: 2}
	for level, code := range codes {
		wantCode(t, "prefix", []impl.Op{prefix("+", level)}, code)
		wantCode(t, "infix", []impl.Op{infix("+", level, impl.SideRight)}, code)
		wantCode(t, "postfix", []impl.Op{postfix("+", level)}, code)
	}
}

func TestTableOkKindAndSide(t *testing.T) {
	for kind := -1; kind <= 5; kind++ {
		for side := -1; side <= 5; side++ {
			code := 2
			if kind == impl.KindInfix && side >= 1 && side <= 3 {
				code = 0
			}
			if (kind == impl.KindPrefix || kind == impl.KindPostfix) && side == 0 {
				code = 0
			}
			o := impl.Op{Text: "+", Kind: kind, Level: 1, Side: side}
			if got := impl.TableOk(table(o)); got != code {
				t.Errorf("%#v: code %d, not %d", o, got, code)
			}
		}
	}
}

func TestTableOkIllFormedAtAnyPlace(t *testing.T) {
	good := []impl.Op{prefix("-", 9), infix("**", 7, impl.SideLeft), postfix("!!", 10)}
	wantCode(t, "the good ones", good, 0)
	for _, bad := range illFormed() {
		for place := 0; place <= len(good); place++ {
			ops := slices.Insert(slices.Clone(good), place, bad)
			if got := impl.TableOk(table(ops...)); got != 2 {
				t.Errorf("%#v at %d: code %d, not 2", bad, place, got)
			}
		}
	}
}

func TestTableOkSameText(t *testing.T) {
	pre, pre2 := prefix("+", 9), prefix("+", 8)
	in, in2 := infix("+", 6, impl.SideLeft), infix("+", 5, impl.SideNone)
	post, post2 := postfix("+", 3), postfix("+", 2)
	cases := []struct {
		ops  []impl.Op
		code int
	}{
		{[]impl.Op{pre, in}, 0},
		{[]impl.Op{in, pre}, 0},
		{[]impl.Op{pre, post}, 0},
		{[]impl.Op{post, pre}, 0},
		{[]impl.Op{in, post}, 3},
		{[]impl.Op{post, in}, 3},
		{[]impl.Op{pre, pre}, 3},
		{[]impl.Op{in, in}, 3},
		{[]impl.Op{post, post}, 3},
		{[]impl.Op{pre, pre2}, 3},
		{[]impl.Op{in, in2}, 3},
		{[]impl.Op{post, post2}, 3},
		{[]impl.Op{pre, in, post}, 3},
		{[]impl.Op{pre, in, prefix("-", 1), pre}, 3},
		{[]impl.Op{pre, infix("++", 6, impl.SideLeft), postfix("+++", 3)}, 0},
		{[]impl.Op{prefix("+-", 1), prefix("-+", 1), prefix("+", 1), prefix("-", 1)}, 0},
	}
	for i, c := range cases {
		if got := impl.TableOk(table(c.ops...)); got != c.code {
			t.Errorf("case %d: code %d, not %d", i, got, c.code)
		}
	}
}

func TestTableOkSorts(t *testing.T) {
	sorts := [][]impl.Op{
		{infix("+", 6, impl.SideLeft), infix("-", 6, impl.SideLeft), postfix("!", 6), postfix("!!", 6)},
		{infix("^", 6, impl.SideRight), infix("^^", 6, impl.SideRight), prefix("~", 6), prefix("~~", 6)},
		{infix("=", 6, impl.SideNone), infix("==", 6, impl.SideNone)},
	}
	for i, one := range sorts {
		wantCode(t, "one sort", one, 0)
		for j, other := range sorts {
			if i == j {
				continue
			}
			for _, a := range one {
				for _, b := range other {
					wantCode(t, "two sorts", []impl.Op{a, b}, 4)
					far := b
					far.Level = 7
					wantCode(t, "two sorts at two levels", []impl.Op{a, far}, 0)
				}
			}
		}
	}
	left, right, plus := sorts[0][0], sorts[1][0], postfix("++", 6)
	wantCode(t, "the other sort between", []impl.Op{left, right, plus}, 4)
	wantCode(t, "the other sort last", []impl.Op{left, plus, right}, 4)
	wantCode(t, "a text on both sides of one level", []impl.Op{infix("+", 6, impl.SideLeft), prefix("+", 6)}, 4)
	wantCode(t, "a text in one sort", []impl.Op{infix("+", 6, impl.SideRight), prefix("+", 6)}, 0)
}

func TestTableOkNumberOfOperators(t *testing.T) {
	full := distinct(impl.MaxOps)
	wantCode(t, "MaxOps", full, 0)
	wantCode(t, "MaxOps+1", distinct(impl.MaxOps+1), 1)
	wantCode(t, "far more", distinct(18*18*18), 1)

	last := impl.MaxOps - 1
	bad := slices.Clone(full)
	bad[last] = impl.Op{}
	wantCode(t, "the last ill formed", bad, 2)
	twice := slices.Clone(full)
	twice[last] = twice[0]
	wantCode(t, "the first again as the last", twice, 3)
	mixed := slices.Clone(full)
	mixed[last] = postfix("!", mixed[0].Level)
	wantCode(t, "two sorts at the ends", mixed, 4)
}

func TestTableOkFirstCode(t *testing.T) {
	rivals := []impl.Op{prefix("-", 9), prefix("-", 8)}
	mixed := []impl.Op{infix("+", 6, impl.SideLeft), infix("=", 6, impl.SideNone)}
	bad := []impl.Op{prefix("-", 0)}
	many := slices.Repeat(mixed, impl.MaxOps)
	cases := []struct {
		what string
		ops  []impl.Op
		code int
	}{
		{"4 then 3", slices.Concat(mixed, rivals), 3},
		{"3 then 4", slices.Concat(rivals, mixed), 3},
		{"4 then 2", slices.Concat(mixed, bad), 2},
		{"3 then 2", slices.Concat(rivals, bad), 2},
		{"2 then 3 then 4", slices.Concat(bad, rivals, mixed), 2},
		{"4 then 3 then 2", slices.Concat(mixed, rivals, bad), 2},
		{"1, 3 and 4", many, 1},
		{"2 and all others", slices.Concat(bad, rivals, many), 1},
		{"1 and 2", slices.Repeat(bad, impl.MaxOps+1), 1},
		{"2 alone, MaxOps times", slices.Repeat(bad, impl.MaxOps), 2},
		{"an ill-formed one twice", slices.Repeat(bad, 2), 2},
		{"3 and 4 in one pair", []impl.Op{infix("+", 6, impl.SideLeft), infix("+", 6, impl.SideRight)}, 3},
		{"3 and 4 in one pair, infix and postfix", []impl.Op{infix("+", 6, impl.SideNone), postfix("+", 6)}, 3},
	}
	for _, c := range cases {
		wantCode(t, c.what, c.ops, c.code)
	}
}

// formed, sort and wordedCode say chapter 1 once more, pair by pair, to be held against TableOk.
func formed(o impl.Op) bool {
	if len(o.Text) < 1 || len(o.Text) > impl.MaxSigns || strings.Trim(o.Text, allSigns) != "" {
		return false
	}
	if o.Level < 1 || o.Level > impl.MaxLevel {
		return false
	}
	infixSide := o.Side == 1 || o.Side == 2 || o.Side == 3
	return o.Kind == 2 && infixSide || (o.Kind == 1 || o.Kind == 3) && o.Side == 0
}

func sort(o impl.Op) string {
	names := map[[2]int]string{{1, 0}: "right", {2, 1}: "left", {2, 2}: "right", {2, 3}: "lone", {3, 0}: "left"}
	return names[[2]int{o.Kind, o.Side}]
}

func somePair(ops []impl.Op, holds func(a, b impl.Op) bool) bool {
	for i := range ops {
		for j := range ops {
			if i != j && holds(ops[i], ops[j]) {
				return true
			}
		}
	}
	return false
}

func wordedCode(ops []impl.Op) int {
	if len(ops) > impl.MaxOps {
		return 1
	}
	for _, o := range ops {
		if !formed(o) {
			return 2
		}
	}
	if somePair(ops, func(a, b impl.Op) bool {
		return a.Text == b.Text && (a.Kind == impl.KindPrefix) == (b.Kind == impl.KindPrefix)
	}) {
		return 3
	}
	if somePair(ops, func(a, b impl.Op) bool { return a.Level == b.Level && sort(a) != sort(b) }) {
		return 4
	}
	return 0
}

func TestTableOkAllSmallTables(t *testing.T) {
	pool := []impl.Op{prefix("+", 0), {Text: "a", Kind: impl.KindInfix, Level: 1, Side: impl.SideLeft}}
	for _, text := range []string{"+", "-"} {
		for level := 1; level <= 2; level++ {
			pool = append(pool, prefix(text, level), postfix(text, level))
			for side := impl.SideLeft; side <= impl.SideNone; side++ {
				pool = append(pool, infix(text, level, side))
			}
		}
	}
	met := map[int]int{}
	eachList(pool, 4, func(ops []impl.Op) {
		code := wordedCode(ops)
		met[code]++
		if got := impl.TableOk(table(ops...)); got != code {
			t.Fatalf("%#v: code %d, not %d", ops, got, code)
		}
	})
	for _, code := range []int{0, 2, 3, 4} {
		if met[code] == 0 {
			t.Errorf("no table with code %d among them", code)
		}
	}
}

func TestTableOkChangesNothing(t *testing.T) {
	for _, ops := range [][]impl.Op{distinct(impl.MaxOps), distinct(impl.MaxOps + 1), illFormed()} {
		kept := slices.Clone(ops)
		first := impl.TableOk(table(ops...))
		if !slices.Equal(ops, kept) {
			t.Errorf("the argument has changed")
		}
		if impl.TableOk(table(ops...)) != first {
			t.Errorf("another answer the second time")
		}
	}
}
