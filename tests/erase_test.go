package tests

import (
	"math"
	"slices"
	"testing"

	"loop.example/s0059/impl"
)

// wantErased also asks for the promise that another Erase changes nothing.
func wantErased(t *testing.T, tr impl.Tree, want impl.Tree) {
	t.Helper()
	got, ok := impl.Erase(tr)
	if !ok || !sameTree(got, want) {
		t.Errorf("%s: %s %v, not %s", shownTree(tr), shownTree(got), ok, shownTree(want))
	}
	again, ok := impl.Erase(got)
	if !ok || !sameTree(again, want) {
		t.Errorf("%s: the second time %s %v, not %s", shownTree(tr), shownTree(again), ok, shownTree(want))
	}
}

func wantNotErased(t *testing.T, tr impl.Tree) {
	t.Helper()
	if got, ok := impl.Erase(tr); ok || len(got.Nodes) != 0 {
		t.Errorf("%s: %s %v, not nothing", shownTree(tr), shownTree(got), ok)
	}
}

func TestEraseWithoutGroups(t *testing.T) {
	a, b := atom("a"), atom("1")
	for _, tr := range []impl.Tree{
		a, b, pre("-", a), post(a, "!"), in(a, "+", b), in(pre("-", post(a, "!")), "*", in(b, "+", pre("-", a))),
		leftHigh(impl.MaxNodes / 2), rightHigh(impl.MaxNodes / 2), chain(impl.MaxNodes, node(impl.NodePrefix, "-", 0, 0)),
	} {
		wantErased(t, tr, tr)
	}
}

func TestEraseGroups(t *testing.T) {
	a, b, c := atom("a"), atom("1"), atom("c")
	wantErased(t, group(a), a)
	wantErased(t, group(group(group(b))), b)
	wantErased(t, group(in(a, "+", b)), in(a, "+", b))
	wantErased(t, in(group(a), "+", b), in(a, "+", b))
	wantErased(t, in(a, "+", group(b)), in(a, "+", b))
	wantErased(t, in(group(a), "+", group(b)), in(a, "+", b))
	wantErased(t, in(group(group(a)), "+", group(group(group(b)))), in(a, "+", b))
	wantErased(t, pre("-", group(a)), pre("-", a))
	wantErased(t, group(pre("-", group(post(group(a), "!")))), pre("-", post(a, "!")))
	wantErased(t, group(in(group(in(group(a), "*", b)), "+", group(in(b, "*", group(c))))), in(in(a, "*", b), "+", in(b, "*", c)))
	wantErased(t, in(in(a, "*", group(b)), "+", in(group(a), "*", pre("-", group(c)))), in(in(a, "*", b), "+", in(a, "*", pre("-", c))))
	wantErased(t, in(a, "+", in(group(b), "+", in(a, "+", group(group(c))))), in(a, "+", in(b, "+", in(a, "+", c))))
}

// Erase asks for no table: operators need not be declared and levels do not
// count.
func TestEraseOverNoTable(t *testing.T) {
	a := atom("a")
	wantErased(t, in(group(in(a, "$$", a)), "@", post(group(pre("%", a)), "%")), in(in(a, "$$", a), "@", post(pre("%", a), "%")))
}

func TestEraseNumberOfNodes(t *testing.T) {
	brackets := node(impl.NodeGroup, "", 0, 0)
	wantNotErased(t, tree())
	wantNotErased(t, impl.Tree{})
	wantErased(t, chain(impl.MaxNodes, brackets), atom("a"))
	wantNotErased(t, chain(impl.MaxNodes+1, brackets))
	wantNotErased(t, chain(impl.MaxNodes+1, node(impl.NodePrefix, "-", 0, 0)))
	minus := node(impl.NodePrefix, "-", 0, 0)
	wantErased(t, chain(impl.MaxNodes, brackets, minus), chain(impl.MaxNodes/2, minus))
	wantErased(t, chain(impl.MaxNodes, minus, brackets), chain(impl.MaxNodes/2+1, minus))
}

func TestEraseNotInOrder(t *testing.T) {
	a := atom("a").Nodes[0]
	brackets := node(impl.NodeGroup, "", 0, 0)
	for _, tr := range []impl.Tree{
		tree(a, a), tree(brackets), tree(a, a, brackets), tree(brackets, a), tree(a, brackets, brackets),
		tree(a, node(impl.NodeGroup, "(", 0, 0)), tree(a, node(impl.NodeGroup, "", 0, 1)), tree(a, node(impl.NodeGroup, "", 1, 0)),
		tree(a, node(impl.NodeGroup, "", math.MinInt, 0)), tree(a, node(impl.NodeGroup, "", math.MaxInt, 0)),
		tree(a, node(0, "", 0, 0)), tree(a, node(7, "", 0, 0)), tree(a, node(math.MaxInt, "", 0, 0)),
		tree(node(impl.NodeName, "", 0, 0), brackets), tree(node(impl.NodeNumber, "a", 0, 0), brackets),
		tree(a, a, node(impl.NodeInfix, "+", 1, 0)), tree(a, a, node(impl.NodeInfix, "+", 0, 0)),
		tree(a, a, node(impl.NodeInfix, "", 0, 1)), pre("a", atom("a")), post(atom("a"), "+++++++++++++++++"),
		tree(a, brackets, a, node(impl.NodeInfix, "+", 0, 2)), tree(a, a, brackets, node(impl.NodeInfix, "+", 0, 2)),
	} {
		if wordedInOrder(tr) {
			t.Fatalf("%s is in order", shownTree(tr))
		}
		wantNotErased(t, tr)
	}
}

// wordedErase replaces each group by its kid, from the root down.
func wordedErase(tr impl.Tree, place int) impl.Tree {
	n := tr.Nodes[place]
	switch n.Kind {
	case impl.NodeGroup:
		return wordedErase(tr, n.A)
	case impl.NodeInfix:
		return in(wordedErase(tr, n.A), n.Text, wordedErase(tr, n.B))
	case impl.NodePrefix, impl.NodePostfix:
		return above(n.Kind, n.Text, wordedErase(tr, n.A))
	}
	return tree(n)
}

func TestEraseOfAllTreesWithAYield(t *testing.T) {
	ops := table(prefix("-", 2), infix("-", 2, impl.SideRight), postfix("!", 1))
	eachFitting(ops, 8, func(list []impl.Token) {
		for _, tr := range allTrees(ops, list) {
			want := wordedErase(tr, len(tr.Nodes)-1)
			got, ok := impl.Erase(tr)
			if !ok || !sameTree(got, want) || !wordedInOrder(got) {
				t.Fatalf("%s: %s %v, not %s", shownTree(tr), shownTree(got), ok, shownTree(want))
			}
			if slices.ContainsFunc(got.Nodes, func(n impl.Node) bool { return n.Kind == impl.NodeGroup }) {
				t.Fatalf("%s: a group is left in %s", shownTree(tr), shownTree(got))
			}
			if again, ok := impl.Erase(got); !ok || !sameTree(again, got) {
				t.Fatalf("%s: the second time %s %v", shownTree(tr), shownTree(again), ok)
			}
		}
	})
}

func TestEraseSharesNoMemory(t *testing.T) {
	for _, tr := range []impl.Tree{in(group(atom("a")), "+", group(group(atom("b")))), in(atom("a"), "+", atom("b"))} {
		given, memory := roomyTree(tr)
		kept := slices.Clone(memory)
		first, _ := impl.Erase(given)
		second, _ := impl.Erase(given)
		all := first.Nodes[:cap(first.Nodes)]
		for i := range all {
			all[i] = impl.Node{Text: "changed"}
		}
		if !slices.Equal(memory, kept) {
			t.Errorf("the argument has changed: %v", memory)
		}
		if !sameTree(second, in(atom("a"), "+", atom("b"))) {
			t.Errorf("two answers share memory: %s", shownTree(second))
		}
	}
}
