package tests

import (
	"slices"
	"strings"
	"testing"

	"loop.example/s0059/impl"
)

// spaced is a text with the tokens, which have no gaps.
func spaced(list []impl.Token) string {
	var texts []string
	for _, token := range list {
		texts = append(texts, token.Text)
	}
	return strings.Join(texts, " ")
}

// eachFitting hands over every list of at most most tokens that, with a TokEnd
// behind it, fits over the table. No two leaves are the same.
func eachFitting(ops impl.Table, most int, do func([]impl.Token)) {
	pool := tokens(opening(), closing())
	for _, o := range ops.Ops {
		if !slices.Contains(pool, sign(o.Text)) {
			pool = append(pool, sign(o.Text))
		}
	}
	var grow func(list []impl.Token)
	grow = func(list []impl.Token) {
		roles, at := wordedRoles(ops, append(slices.Clone(list), end()))
		if at >= 0 && at < len(list) {
			return
		}
		if roles != nil {
			do(list)
		}
		if len(list) == most {
			return
		}
		leaf := name(string(rune('a' + len(list))))
		if len(list)%3 == 2 {
			leaf = number(string(rune('0' + len(list))))
		}
		for _, token := range append(slices.Clone(pool), leaf) {
			grow(append(slices.Clone(list), token))
		}
	}
	grow(nil)
}

// holdAgainstSearch also asks for the promise that there is at most one tree.
func holdAgainstSearch(t *testing.T, ops impl.Table, list []impl.Token) {
	found := searched(ops, list)
	got, code, at := impl.Parse(ops, spaced(list))
	switch {
	case len(found) > 1:
		t.Fatalf("%v, %s: %d admissible trees", ops, spaced(list), len(found))
	case at != 0:
		t.Fatalf("%v, %s: code %d, place %d", ops, spaced(list), code, at)
	case len(found) == 0 && (code != 5 || len(got.Nodes) != 0):
		t.Fatalf("%v, %s: %s %d, not nothing 5", ops, spaced(list), shownTree(got), code)
	case len(found) == 1 && (code != 0 || !sameTree(got, found[0])):
		t.Fatalf("%v, %s: %s %d, not %s", ops, spaced(list), shownTree(got), code, shownTree(found[0]))
	case code == 0 && impl.TreeOk(ops, got) != 0:
		t.Fatalf("%v, %s: TreeOk %d", ops, spaced(list), impl.TreeOk(ops, got))
	}
}

// someTables has the valid tables of at most one operator + and one * that
// stand behind an operand, and one prefix operator, of the levels 1 to 3.
func someTables() []impl.Table {
	choices := [3][][]impl.Op{{nil}, {nil}, {nil}}
	for level := 1; level <= 3; level++ {
		for i, text := range []string{"+", "*"} {
			for _, o := range eachKind(text, level) {
				if o.Kind != impl.KindPrefix {
					choices[i] = append(choices[i], []impl.Op{o})
				}
			}
		}
		choices[2] = append(choices[2], []impl.Op{prefix("-", level)}, []impl.Op{prefix("+", level)})
	}
	var out []impl.Table
	for _, plus := range choices[0] {
		for _, times := range choices[1] {
			for _, before := range choices[2] {
				ops := table(slices.Concat(plus, times, before)...)
				if impl.TableOk(ops) == 0 {
					out = append(out, ops)
				}
			}
		}
	}
	return out
}

func TestParseFindsTheTreeOverManyTables(t *testing.T) {
	for _, ops := range someTables() {
		eachFitting(ops, 6, func(list []impl.Token) { holdAgainstSearch(t, ops, list) })
	}
}

func TestParseFindsTheTreeOfLongerTexts(t *testing.T) {
	for _, ops := range []impl.Table{
		table(prefix("~", 1), infix("+", 2, impl.SideLeft), postfix("!", 3)),
		table(prefix("~", 2), infix("+", 1, impl.SideNone), postfix("!", 3)),
		table(prefix("-", 2), infix("-", 2, impl.SideRight), postfix("!", 1)),
		table(prefix("!", 3), infix("-", 2, impl.SideLeft), postfix("!", 2)),
		table(infix("+", 1, impl.SideNone), infix("-", 2, impl.SideRight), prefix("-", 2)),
	} {
		eachFitting(ops, 8, func(list []impl.Token) { holdAgainstSearch(t, ops, list) })
	}
	ops := table(infix("+", 2, impl.SideLeft), infix("^", 3, impl.SideRight), infix("=", 1, impl.SideNone))
	eachFitting(ops, 9, func(list []impl.Token) { holdAgainstSearch(t, ops, list) })
}

func TestParseOfAllSmallTexts(t *testing.T) {
	for _, ops := range []impl.Table{
		table(),
		table(prefix("-", 2), infix("-", 1, impl.SideLeft), postfix("--", 3)),
		table(prefix("-", 1), infix("--", 2, impl.SideRight), postfix("-", 1+2)),
		table(prefix("-", 3), infix("-", 1, impl.SideNone)),
	} {
		eachList([]byte("a1-( )"), 6, func(b []byte) {
			got, code, at := impl.Parse(ops, string(b))
			want, wantCode, place := wordedParse(ops, string(b))
			if code != wantCode || at != place || !sameTree(got, want) {
				t.Fatalf("%v, %q: %s %d %d, not %s %d %d", ops, b, shownTree(got), code, at, shownTree(want), wantCode, place)
			}
		})
	}
}

// Every tree with some yield is tried, not only those that Parse gives.
func TestTreeOkOfAllTreesWithAYield(t *testing.T) {
	tried := [4]int{}
	for _, ops := range someTables() {
		eachFitting(ops, 5, func(list []impl.Token) {
			for _, tr := range allTrees(ops, list) {
				code := impl.TreeOk(ops, tr)
				if want := wordedTreeOk(ops, tr); code != want {
					t.Fatalf("%v, %s: %d, not %d", ops, shownTree(tr), code, want)
				}
				if yield := strings.Join(wordedYield(tr, len(tr.Nodes)-1), " "); yield != spaced(list) {
					t.Fatalf("the search for %s gave the yield %s", spaced(list), yield)
				}
				tried[code]++
			}
		})
	}
	if tried[0] == 0 || tried[3] == 0 {
		t.Errorf("trees of each code: %v", tried)
	}
}

// Tokens that do not fit are the yield of no tree at all, so that code 4 hides
// none.
func TestTokensFitExactlyWhenTheyAreAYield(t *testing.T) {
	ops := table(prefix("-", 2), infix("-", 1, impl.SideLeft), postfix("!", 3))
	pool := tokens(name("a"), number("1"), sign("-"), sign("!"), opening(), closing(), bad("#"))
	eachList(pool, 5, func(list []impl.Token) {
		_, misfit := impl.Roles(ops, append(slices.Clone(list), end()))
		if found := allTrees(ops, list); (misfit == -1) != (len(found) > 0) {
			t.Fatalf("%s: misfit %d, but %d trees", spaced(list), misfit, len(found))
		}
	})
}
