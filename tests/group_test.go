package tests

import (
	"slices"
	"testing"

	"loop.example/s0059/impl"
)

func TestGroupWhereNoneIsNeeded(t *testing.T) {
	ops := documented()
	a, b := atom("a"), atom("1")
	for _, tr := range []impl.Tree{
		a, b, pre("-", a), post(a, "!"), in(a, "+", b), pre("-", pre("-", a)), post(post(b, "!"), "!"),
		pre("-", post(a, "!")), in(in(a, "+", b), "+", a), in(in(a, "*", b), "+", in(b, "*", a)), pre("~", in(a, "==", b)),
		in(pre("-", a), "*", pre("-", b)), in(post(a, "!"), "==", post(b, "!")), pre("~", pre("-", pre("-", a))),
	} {
		wantGrouped(t, ops, tr, tr)
		wantGrouped(t, ops, group(tr), tr)
		wantGrouped(t, ops, group(group(tr)), tr)
	}
}

func TestGroupWhereSomeAreNeeded(t *testing.T) {
	ops := documented()
	a, b, c := atom("a"), atom("1"), atom("c")
	wantGrouped(t, ops, in(in(a, "+", b), "*", c), in(group(in(a, "+", b)), "*", c))
	wantGrouped(t, ops, in(a, "*", in(b, "+", c)), in(a, "*", group(in(b, "+", c))))
	wantGrouped(t, ops, in(a, "+", in(b, "+", c)), in(a, "+", group(in(b, "+", c))))
	wantGrouped(t, ops, in(in(a, "==", b), "==", c), in(group(in(a, "==", b)), "==", c))
	wantGrouped(t, ops, in(a, "==", in(b, "==", c)), in(a, "==", group(in(b, "==", c))))
	wantGrouped(t, ops, pre("-", in(a, "+", b)), pre("-", group(in(a, "+", b))))
	wantGrouped(t, ops, post(in(a, "+", b), "!"), post(group(in(a, "+", b)), "!"))
	wantGrouped(t, ops, post(pre("-", a), "!"), post(group(pre("-", a)), "!"))
	wantGrouped(t, ops, pre("-", pre("~", a)), pre("-", group(pre("~", a))))
	wantGrouped(t, ops, post(pre("-", pre("~", in(a, "+", b))), "!"), post(group(pre("-", group(pre("~", in(a, "+", b))))), "!"))
	wantGrouped(t, ops, in(in(a, "+", b), "*", in(in(a, "*", b), "+", pre("~", c))),
		in(group(in(a, "+", b)), "*", group(in(in(a, "*", b), "+", group(pre("~", c))))))
}

func TestGroupOfTreesWithGroups(t *testing.T) {
	ops := documented()
	a, b, c := atom("a"), atom("1"), atom("c")
	sum := in(a, "+", b)
	wantGrouped(t, ops, group(a), a)
	wantGrouped(t, ops, group(group(group(b))), b)
	wantGrouped(t, ops, in(group(a), "+", group(group(b))), sum)
	wantGrouped(t, ops, in(group(sum), "*", c), in(group(sum), "*", c))
	wantGrouped(t, ops, in(group(group(group(sum))), "*", c), in(group(sum), "*", c))
	wantGrouped(t, ops, group(in(group(group(sum)), "*", group(c))), in(group(sum), "*", c))
	wantGrouped(t, ops, in(group(sum), "+", c), in(sum, "+", c))
	wantGrouped(t, ops, in(c, "+", group(sum)), in(c, "+", group(sum)))
	wantGrouped(t, ops, group(group(post(group(group(pre("-", group(a)))), "!"))), post(group(pre("-", a)), "!"))
	// One group is needed and the other is not.
	wantGrouped(t, ops, in(group(in(a, "*", b)), "*", group(in(b, "*", c))), in(in(a, "*", b), "*", group(in(b, "*", c))))
	wantGrouped(t, ops, in(in(a, "+", b), "*", group(in(b, "+", c))), in(group(in(a, "+", b)), "*", group(in(b, "+", c))))
	wantGrouped(t, ops, pre("~", group(in(a, "*", group(pre("~", group(b)))))), pre("~", in(a, "*", group(pre("~", b)))))
}

// No exception is made for a prefix node behind an infix operator, and none for
// one in front of it.
func TestGroupPrefixKidsOfInfixNodes(t *testing.T) {
	a, b := atom("a"), atom("b")
	for _, side := range []int{impl.SideLeft, impl.SideRight, impl.SideNone} {
		for level := 5; level <= 7; level++ {
			ops := table(infix("*", 6, side), prefix("-", level))
			if impl.TableOk(ops) != 0 {
				continue
			}
			first, second := wordedLeast(ops.Ops[0])
			kid := pre("-", b)
			if level < first {
				wantGrouped(t, ops, in(kid, "*", a), in(group(kid), "*", a))
			} else {
				wantGrouped(t, ops, in(kid, "*", a), in(kid, "*", a))
			}
			if level < second {
				wantGrouped(t, ops, in(a, "*", kid), in(a, "*", group(kid)))
			} else {
				wantGrouped(t, ops, in(a, "*", kid), in(a, "*", kid))
			}
		}
	}
}

func TestGroupAtTheLeastOfEachHole(t *testing.T) {
	eachHole(func(o impl.Op, second bool, least int) {
		eachKid(t, o, least, func(ops impl.Table, _ impl.Op, kid impl.Tree, below bool) {
			want := holed(o, second, kid)
			if below {
				want = holed(o, second, group(kid))
			}
			for _, given := range []impl.Tree{kid, group(kid), group(group(kid))} {
				wantGrouped(t, ops, holed(o, second, given), want)
				wantGrouped(t, ops, group(holed(o, second, given)), want)
			}
		})
		for _, kid := range []impl.Tree{atom("b"), atom("1")} {
			wantGrouped(t, table(o), holed(o, second, kid), holed(o, second, kid))
			wantGrouped(t, table(o), holed(o, second, group(group(kid))), holed(o, second, kid))
		}
	})
}

func TestGroupOfNothing(t *testing.T) {
	a := atom("a")
	for _, ops := range notValid() {
		for _, tr := range []impl.Tree{tree(), a, group(a), in(a, "+", a), pre("-", a), tree(node(9, "", -1, -1))} {
			wantNotGrouped(t, ops, tr)
		}
	}
	for _, o := range illFormed() {
		wantNotGrouped(t, table(o), a)
	}
	ops := documented()
	leaf, brackets := a.Nodes[0], node(impl.NodeGroup, "", 0, 0)
	for _, tr := range []impl.Tree{
		{}, tree(), tree(leaf, leaf), tree(brackets), tree(brackets, leaf), tree(leaf, leaf, brackets), tree(leaf, brackets, brackets),
		tree(leaf, node(impl.NodeGroup, "(", 0, 0)), tree(leaf, node(impl.NodeGroup, "", 0, 1)), tree(leaf, node(impl.NodeGroup, "", 1, 0)),
		tree(leaf, node(0, "", 0, 0)), tree(leaf, node(7, "", 0, 0)), tree(node(impl.NodeName, "", 0, 0)), tree(node(impl.NodeName, "1", 0, 0)),
		tree(node(impl.NodeNumber, "a", 0, 0)), tree(node(impl.NodeName, "a b", 0, 0)), tree(node(impl.NodeName, "a", 0, 1)),
		tree(leaf, leaf, node(impl.NodeInfix, "+", 1, 0)), tree(leaf, leaf, node(impl.NodeInfix, "+", 0, 0)),
		tree(leaf, leaf, node(impl.NodeInfix, "+", 0, 2)), tree(leaf, node(impl.NodePrefix, "-", -1, 0)),
		tree(leaf, node(impl.NodePrefix, "-", 0, 1)), tree(leaf, node(impl.NodePostfix, "!", 1, 0)),
		pre("a", a), pre("", a), in(a, "+ ", a),
	} {
		if wordedInOrder(tr) {
			t.Fatalf("%s is in order", shownTree(tr))
		}
		wantNotGrouped(t, ops, tr)
	}
}

func TestGroupOfTreesInOrderThatAreNotWellFormed(t *testing.T) {
	ops := documented()
	a := atom("a")
	for _, tr := range []impl.Tree{
		pre("+", a), pre("!", a), pre("==", a), post(a, "-"), post(a, "+"), in(a, "-", a), in(a, "!", a), in(a, "=", a), pre("-~", a),
		group(pre("&", a)), pre("-", group(post(a, "~"))), in(in(a, "&", a), "+", a), in(a, "+", pre("*", a)), pre("-", pre("~", pre("&", a))),
	} {
		if !wordedInOrder(tr) {
			t.Fatalf("%s is not in order", shownTree(tr))
		}
		wantNotGrouped(t, ops, tr)
	}
	wantNotGrouped(t, table(), pre("-", a))
	wantGrouped(t, table(), group(a), a)
}

// holdGroup holds Group against the document's words and asks for all that is
// promised of it.
func holdGroup(t *testing.T, ops impl.Table, tr impl.Tree) {
	t.Helper()
	got, ok := impl.Group(ops, tr)
	if want := wordedGroup(ops, tr); !ok || !sameTree(got, want) {
		t.Fatalf("%v, %s: %s %v, not %s", ops, shownTree(tr), shownTree(got), ok, shownTree(want))
	}
	if code := impl.TreeOk(ops, got); code != 0 {
		t.Fatalf("%v, %s: %s has TreeOk %d", ops, shownTree(tr), shownTree(got), code)
	}
	before, _ := impl.Erase(tr)
	if after, ok := impl.Erase(got); !ok || !sameTree(before, after) {
		t.Fatalf("%v, %s: %s has another Erase", ops, shownTree(tr), shownTree(got))
	}
	holdNeeded(t, ops, got)
}

func TestGroupOfAllTreesWithAYield(t *testing.T) {
	for _, ops := range someTables() {
		eachFitting(ops, 5, func(list []impl.Token) {
			for _, tr := range allTrees(ops, list) {
				holdGroup(t, ops, tr)
			}
		})
	}
}

// smallTables has a table for each way in which the levels of operators of the
// three kinds can follow upon each other.
func smallTables() []impl.Table {
	var out []impl.Table
	for _, levels := range [][3]int{{1, 2, 3}, {1, 3, 2}, {2, 1, 3}, {2, 3, 1}, {3, 1, 2}, {3, 2, 1}} {
		for side := impl.SideLeft; side <= impl.SideNone; side++ {
			out = append(out, table(prefix("-", levels[0]), infix("-", levels[1], side), postfix("!", levels[2])))
		}
	}
	return append(out,
		table(prefix("~", 1), infix("^", 1, impl.SideRight), postfix("!", 2), infix("+", 2, impl.SideLeft)),
		table(infix("=", 1, impl.SideNone), infix("<", 1, impl.SideNone), prefix("!", 2), postfix("!", 3)),
		table(infix("+", 1, impl.SideLeft), infix("^", 3, impl.SideRight), infix("=", 2, impl.SideNone)),
	)
}

func TestGroupOfAllSmallTrees(t *testing.T) {
	for _, ops := range smallTables() {
		for n := range 5 {
			for _, tr := range bareTrees(ops, n) {
				holdGroup(t, ops, tr)
			}
		}
	}
}

func TestGroupOfAllSmallTreesWithGroupsAnywhere(t *testing.T) {
	for _, ops := range smallTables() {
		for n := range 3 {
			for _, bare := range bareTrees(ops, n) {
				eachGrouping(bare, 2, func(tr impl.Tree) { holdGroup(t, ops, tr) })
			}
		}
		for _, bare := range bareTrees(ops, 3)[:20] {
			eachGrouping(bare, 1, func(tr impl.Tree) { holdGroup(t, ops, tr) })
		}
	}
}

// The trees have a third of their nodes less than the answers.
func TestGroupUpToMaxNodes(t *testing.T) {
	ops := deepOps()
	const leaves = 6667 // of an answer of MaxNodes-2 nodes
	for _, text := range []string{"^", "="} {
		bare, with := retexted(leftHigh(leaves), text), leftGrouped(leaves, text)
		wantGrouped(t, ops, bare, with)
		wantGrouped(t, ops, onTop(2, "~", bare), onTop(2, "~", with))
		wantGrouped(t, ops, onTop(2, "~", with), onTop(2, "~", with))
		wantNotGrouped(t, ops, onTop(3, "~", bare))
		wantNotGrouped(t, ops, onTop(3, "~", with))
		wantNotGrouped(t, ops, group(onTop(3, "~", bare)))
		wantGrouped(t, ops, pre("-", bare), pre("-", group(with)))
		wantNotGrouped(t, ops, pre("-", pre("-", bare)))
		wantNotGrouped(t, ops, pre("~", pre("-", bare)))
	}
	for _, text := range []string{"+", "="} {
		bare, with := retexted(rightHigh(leaves), text), rightGrouped(leaves, text)
		wantGrouped(t, ops, onTop(2, "~", bare), onTop(2, "~", with))
		wantGrouped(t, ops, onTop(2, "~", with), onTop(2, "~", with))
		wantNotGrouped(t, ops, onTop(3, "~", bare))
		wantNotGrouped(t, ops, onTop(3, "~", with))
		wantGrouped(t, ops, pre("-", bare), pre("-", group(with)))
		wantNotGrouped(t, ops, pre("-", pre("-", bare)))
	}
}

func TestGroupUpToMaxNodesByPrefixNodes(t *testing.T) {
	ops := deepOps()
	weak, tight, brackets := node(impl.NodePrefix, "~", 0, 0), node(impl.NodePrefix, "-", 0, 0), node(impl.NodeGroup, "", 0, 0)
	bare := chain(13334, weak, tight)
	with := chain(impl.MaxNodes, weak, brackets, tight)
	wantGrouped(t, ops, bare, with)
	wantGrouped(t, ops, with, with)
	wantNotGrouped(t, ops, pre("~", bare))
	wantNotGrouped(t, ops, pre("-", bare))
	wantNotGrouped(t, ops, pre("~", with))
	wantNotGrouped(t, ops, group(with))
	wantGrouped(t, ops, group(bare), with)
	wantNotGrouped(t, ops, chain(impl.MaxNodes, weak, tight))
}

// An answer may be small, but a tree of more than MaxNodes nodes is none.
func TestGroupOfTooManyNodes(t *testing.T) {
	ops := deepOps()
	for _, n := range []impl.Node{
		node(impl.NodeGroup, "", 0, 0), node(impl.NodePrefix, "~", 0, 0), node(impl.NodePrefix, "-", 0, 0), node(impl.NodePostfix, "!", 0, 0),
	} {
		wantNotGrouped(t, ops, chain(impl.MaxNodes+1, n))
		wantNotGrouped(t, ops, chain(2*impl.MaxNodes, n))
	}
	wantNotGrouped(t, ops, group(group(leftHigh(impl.MaxNodes/2))))
	wantNotGrouped(t, ops, leftHigh(impl.MaxNodes))
}

func TestGroupOfHighestTrees(t *testing.T) {
	ops := deepOps()
	brackets, weak, tight := node(impl.NodeGroup, "", 0, 0), node(impl.NodePrefix, "~", 0, 0), node(impl.NodePrefix, "-", 0, 0)
	behind := node(impl.NodePostfix, "!", 0, 0)
	const most = impl.MaxNodes
	wantGrouped(t, ops, chain(most, brackets), atom("a"))
	for _, n := range []impl.Node{weak, tight, behind} {
		wantGrouped(t, ops, chain(most, n), chain(most, n))
		wantGrouped(t, ops, group(chain(most-1, n)), chain(most-1, n))
		wantGrouped(t, ops, chain(most, brackets, n), chain(most/2, n))
		wantGrouped(t, ops, chain(most, n, brackets), chain(most/2+1, n))
	}
	wantGrouped(t, ops, chain(most, tight, brackets, behind, brackets), chain(15001, tight, brackets, behind))
	for _, high := range []impl.Tree{leftHigh(most / 2), rightHigh(most / 2)} {
		wantGrouped(t, ops, high, high)
		wantGrouped(t, ops, group(high), high)
		wantGrouped(t, ops, pre("~", high), pre("~", high))
	}
	wantNotGrouped(t, ops, retexted(leftHigh(most/2), "^"))
	wantNotGrouped(t, ops, retexted(rightHigh(most/2), "+"))
	wantNotGrouped(t, ops, retexted(leftHigh(most/2), "="))
	wantNotGrouped(t, ops, retexted(rightHigh(most/2), "="))
}

func TestGroupOverTheGreatestTable(t *testing.T) {
	ops := distinct(impl.MaxOps)
	up, down := atom("a"), atom("a")
	for i, o := range ops {
		down = pre(o.Text, down)
		if i > 0 {
			up = group(up)
		}
		up = pre(o.Text, up)
	}
	wantGrouped(t, table(ops...), down, up)
	plain := atom("a")
	for _, o := range slices.Backward(ops) {
		plain = pre(o.Text, plain)
	}
	wantGrouped(t, table(ops...), plain, plain)
	wantNotGrouped(t, table(distinct(impl.MaxOps+1)...), plain)
}

func TestGroupSharesNoMemory(t *testing.T) {
	ops, opsMemory := roomy(documented().Ops)
	opsKept := slices.Clone(opsMemory)
	want := in(group(in(atom("a"), "+", atom("b"))), "*", pre("-", atom("c")))
	for _, tr := range []impl.Tree{want, wordedErase(want, len(want.Nodes)-1), group(want)} {
		given, memory := roomyTree(tr)
		kept := slices.Clone(memory)
		first, _ := impl.Group(ops, given)
		second, _ := impl.Group(ops, given)
		all := first.Nodes[:cap(first.Nodes)]
		for i := range all {
			all[i] = impl.Node{Text: "changed"}
		}
		if !slices.Equal(memory, kept) || !slices.Equal(opsMemory, opsKept) {
			t.Errorf("an argument has changed: %v %v", memory, opsMemory)
		}
		for i := range memory {
			memory[i] = impl.Node{Text: "changed"}
		}
		if !sameTree(second, want) {
			t.Errorf("an answer shares memory: %s", shownTree(second))
		}
	}
}
