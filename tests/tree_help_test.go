package tests

import (
	"fmt"
	"slices"
	"strings"
	"testing"

	"loop.example/s0059/impl"
)

func node(kind int, text string, a int, b int) impl.Node {
	return impl.Node{Kind: kind, Text: text, A: a, B: b}
}

func tree(nodes ...impl.Node) impl.Tree {
	return impl.Tree{Nodes: nodes}
}

// atom is a number when it begins with a digit.
func atom(text string) impl.Tree {
	if numberForm.MatchString(text) {
		return tree(node(impl.NodeNumber, text, 0, 0))
	}
	return tree(node(impl.NodeName, text, 0, 0))
}

func above(kind int, text string, kid impl.Tree) impl.Tree {
	return tree(append(slices.Clone(kid.Nodes), node(kind, text, len(kid.Nodes)-1, 0))...)
}

func pre(text string, kid impl.Tree) impl.Tree {
	return above(impl.NodePrefix, text, kid)
}

func post(kid impl.Tree, text string) impl.Tree {
	return above(impl.NodePostfix, text, kid)
}

func group(kid impl.Tree) impl.Tree {
	return above(impl.NodeGroup, "", kid)
}

func in(first impl.Tree, text string, second impl.Tree) impl.Tree {
	nodes := slices.Clone(first.Nodes)
	for _, n := range second.Nodes {
		switch n.Kind {
		case impl.NodeInfix:
			n.A, n.B = n.A+len(first.Nodes), n.B+len(first.Nodes)
		case impl.NodePrefix, impl.NodePostfix, impl.NodeGroup:
			n.A += len(first.Nodes)
		}
		nodes = append(nodes, n)
	}
	return tree(append(nodes, node(impl.NodeInfix, text, len(first.Nodes)-1, len(nodes)-1))...)
}

// chain has the nodes of the kinds and texts of the pattern, over and over,
// each above the one before it; it has n nodes.
func chain(n int, pattern ...impl.Node) impl.Tree {
	nodes := atom("a").Nodes
	for len(nodes) < n {
		next := pattern[(len(nodes)-1)%len(pattern)]
		next.A = len(nodes) - 1
		nodes = append(nodes, next)
	}
	return tree(nodes...)
}

// documented is the table of the examples of chapter 3.
func documented() impl.Table {
	return table(
		infix("+", 6, impl.SideLeft), infix("*", 7, impl.SideLeft), prefix("-", 9), prefix("~", 1),
		postfix("!", 10), infix("==", 4, impl.SideNone),
	)
}

// roomyTree gives a tree with spare memory behind its nodes, and that memory.
func roomyTree(tr impl.Tree) (impl.Tree, []impl.Node) {
	memory := append(slices.Clone(tr.Nodes), node(impl.NodeName, "kept", 0, 0), node(impl.NodeName, "too", 0, 0))
	return tree(memory[:len(tr.Nodes)]...), memory
}

func sameTree(a impl.Tree, b impl.Tree) bool {
	return slices.Equal(a.Nodes, b.Nodes)
}

// shownTree leaves out the rest of a long tree and of long texts.
func shownTree(tr impl.Tree) string {
	const most = 30
	var shown []string
	for _, n := range tr.Nodes[:min(len(tr.Nodes), most)] {
		shown = append(shown, fmt.Sprintf("{%d %.60q %d %d}", n.Kind, n.Text, n.A, n.B))
	}
	return fmt.Sprintf("%d nodes, %s", len(tr.Nodes), strings.Join(shown, " "))
}

func shownText(s string) string {
	const most = 60
	if len(s) > most {
		return fmt.Sprintf("%d bytes, first %q", len(s), s[:most])
	}
	return fmt.Sprintf("%q", s)
}

func wantTreeCode(t *testing.T, ops impl.Table, tr impl.Tree, code int) {
	t.Helper()
	if got := impl.TreeOk(ops, tr); got != code {
		t.Errorf("%s: code %d, not %d", shownTree(tr), got, code)
	}
}

// wantTree also asks for the promise that what Parse gives is admissible.
func wantTree(t *testing.T, ops impl.Table, s string, want impl.Tree) {
	t.Helper()
	got, code, at := impl.Parse(ops, s)
	if code != 0 || at != 0 || !sameTree(got, want) {
		t.Errorf("%s: %s %d %d, not %s", shownText(s), shownTree(got), code, at, shownTree(want))
	}
	wantTreeCode(t, ops, want, 0)
}

func wantRefusal(t *testing.T, ops impl.Table, s string, code int, place int) {
	t.Helper()
	got, gotCode, at := impl.Parse(ops, s)
	if gotCode != code || at != place || len(got.Nodes) != 0 {
		t.Errorf("%s: %s %d %d, not nothing %d %d", shownText(s), shownTree(got), gotCode, at, code, place)
	}
}
