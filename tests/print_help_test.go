package tests

import (
	"slices"
	"strings"
	"testing"

	"loop.example/s0059/impl"
)

// wordedGroup takes all groups out and puts a group around exactly those kids
// whose level is below the least of their hole.
func wordedGroup(ops impl.Table, tr impl.Tree) impl.Tree {
	bare := wordedErase(tr, len(tr.Nodes)-1)
	return wordedWithGroups(ops, bare, len(bare.Nodes)-1)
}

func wordedWithGroups(ops impl.Table, tr impl.Tree, place int) impl.Tree {
	n := tr.Nodes[place]
	if !isOpNode(n) {
		return tree(n)
	}
	first, second := wordedLeast(wordedOps(ops, n)[0])
	if n.Kind == impl.NodeInfix {
		return in(wordedKid(ops, tr, n.A, first), n.Text, wordedKid(ops, tr, n.B, second))
	}
	return above(n.Kind, n.Text, wordedKid(ops, tr, n.A, first))
}

func wordedKid(ops impl.Table, tr impl.Tree, place int, least int) impl.Tree {
	kid := wordedWithGroups(ops, tr, place)
	if wordedLevel(ops, tr.Nodes[place]) < least {
		return group(kid)
	}
	return kid
}

// wordedTokens is the yield with, for each token, the kind of its node.
func wordedTokens(tr impl.Tree, place int) []impl.Node {
	n := tr.Nodes[place]
	own := node(n.Kind, n.Text, 0, 0)
	switch n.Kind {
	case impl.NodePrefix:
		return append([]impl.Node{own}, wordedTokens(tr, n.A)...)
	case impl.NodePostfix:
		return append(wordedTokens(tr, n.A), own)
	case impl.NodeInfix:
		return slices.Concat(wordedTokens(tr, n.A), []impl.Node{own}, wordedTokens(tr, n.B))
	case impl.NodeGroup:
		opens, closes := node(n.Kind, "(", 0, 0), node(n.Kind, ")", 0, 0)
		return slices.Concat([]impl.Node{opens}, wordedTokens(tr, n.A), []impl.Node{closes})
	}
	return []impl.Node{own}
}

func wordedPrint(ops impl.Table, tr impl.Tree) string {
	with := wordedGroup(ops, tr)
	var s strings.Builder
	var before impl.Node
	for i, token := range wordedTokens(with, len(with.Nodes)-1) {
		ofInfix := before.Kind == impl.NodeInfix || token.Kind == impl.NodeInfix
		if i > 0 && (ofInfix || isOpNode(before) && isOpNode(token)) {
			s.WriteByte(32)
		}
		s.WriteString(token.Text)
		before = token
	}
	return s.String()
}

// ungrouped takes out those groups whose places are marked as gone.
func ungrouped(tr impl.Tree, place int, gone []bool) impl.Tree {
	n := tr.Nodes[place]
	switch {
	case n.Kind == impl.NodeGroup && gone[place]:
		return ungrouped(tr, n.A, gone)
	case n.Kind == impl.NodeInfix:
		return in(ungrouped(tr, n.A, gone), n.Text, ungrouped(tr, n.B, gone))
	case hasOneKid(n.Kind):
		return above(n.Kind, n.Text, ungrouped(tr, n.A, gone))
	}
	return tree(n)
}

func groupPlaces(tr impl.Tree) []int {
	var out []int
	for place, n := range tr.Nodes {
		if n.Kind == impl.NodeGroup {
			out = append(out, place)
		}
	}
	return out
}

// holdNeeded takes out each choice of one or more of the groups.
func holdNeeded(t *testing.T, ops impl.Table, tr impl.Tree) {
	t.Helper()
	places := groupPlaces(tr)
	for choice := 1; choice < 1<<len(places); choice++ {
		gone := make([]bool, len(tr.Nodes))
		for i, place := range places {
			gone[place] = choice>>i&1 == 1
		}
		if left := ungrouped(tr, len(tr.Nodes)-1, gone); impl.TreeOk(ops, left) != 3 {
			t.Fatalf("%v, %s: without some groups it is %s, with TreeOk %d", ops, shownTree(tr), shownTree(left), impl.TreeOk(ops, left))
		}
	}
}

// wantGrouped also asks for the promise that the tree is admissible and keeps
// its Erase; that each group is needed is asked for where there are few.
func wantGrouped(t *testing.T, ops impl.Table, tr impl.Tree, want impl.Tree) {
	t.Helper()
	got, ok := impl.Group(ops, tr)
	if !ok || !sameTree(got, want) {
		t.Errorf("%s: %s %v, not %s", shownTree(tr), shownTree(got), ok, shownTree(want))
		return
	}
	wantTreeCode(t, ops, got, 0)
	before, _ := impl.Erase(tr)
	if after, ok := impl.Erase(got); !ok || !sameTree(before, after) {
		t.Errorf("%s: another Erase, %s", shownTree(tr), shownTree(after))
	}
	if len(groupPlaces(got)) <= 6 {
		holdNeeded(t, ops, got)
	}
}

// wantNotGrouped asks Print too, which says false where Group does.
func wantNotGrouped(t *testing.T, ops impl.Table, tr impl.Tree) {
	t.Helper()
	if got, ok := impl.Group(ops, tr); ok || len(got.Nodes) != 0 {
		t.Errorf("Group of %s: %s %v, not nothing", shownTree(tr), shownTree(got), ok)
	}
	if got, ok := impl.Print(ops, tr); ok || got != "" {
		t.Errorf("Print of %s: %s %v, not nothing", shownTree(tr), shownText(got), ok)
	}
}

func wantPrinted(t *testing.T, ops impl.Table, tr impl.Tree, want string) {
	t.Helper()
	if got, ok := impl.Print(ops, tr); !ok || got != want {
		t.Errorf("%s: %s %v, not %s", shownTree(tr), shownText(got), ok, shownText(want))
	}
}

// wantReadBack asks for the promise that Parse of Print reads the tree.
func wantReadBack(t *testing.T, ops impl.Table, tr impl.Tree) {
	t.Helper()
	s, ok := impl.Print(ops, tr)
	if !ok || len(s) > impl.MaxText {
		t.Errorf("%s: %s %v", shownTree(tr), shownText(s), ok)
		return
	}
	read, code, at := impl.Parse(ops, s)
	bare, _ := impl.Erase(read)
	if want, _ := impl.Erase(tr); code != 0 || at != 0 || !sameTree(bare, want) {
		t.Errorf("%s: %s is read as %s %d %d", shownTree(tr), shownText(s), shownTree(read), code, at)
	}
}

// wantFormatted also asks for the promise that another Format changes nothing.
func wantFormatted(t *testing.T, ops impl.Table, s string, want string) {
	t.Helper()
	got, code, at := impl.Format(ops, s)
	if got != want || code != 0 || at != 0 {
		t.Errorf("%s: %s %d %d, not %s", shownText(s), shownText(got), code, at, shownText(want))
		return
	}
	if len(got) > impl.MaxText {
		return
	}
	again, code, at := impl.Format(ops, got)
	if again != got || code != 0 || at != 0 {
		t.Errorf("%s: the second time %s %d %d, not %s", shownText(s), shownText(again), code, at, shownText(got))
	}
	given, _, _ := impl.Parse(ops, s)
	read, _, _ := impl.Parse(ops, got)
	before, _ := impl.Erase(given)
	if after, ok := impl.Erase(read); !ok || !sameTree(before, after) {
		t.Errorf("%s: %s has another tree", shownText(s), shownText(got))
	}
}

func wantNoFormat(t *testing.T, ops impl.Table, s string, code int, place int) {
	t.Helper()
	got, gotCode, at := impl.Format(ops, s)
	if got != "" || gotCode != code || at != place {
		t.Errorf("%s: %s %d %d, not nothing %d %d", shownText(s), shownText(got), gotCode, at, code, place)
	}
}

// bareTrees has the trees without groups that have n operator nodes.
func bareTrees(ops impl.Table, n int) []impl.Tree {
	if n == 0 {
		return []impl.Tree{atom("a")}
	}
	var out []impl.Tree
	for _, o := range ops.Ops {
		if o.Kind == impl.KindInfix {
			continue
		}
		for _, kid := range bareTrees(ops, n-1) {
			out = append(out, holed(o, false, kid))
		}
	}
	for i := range n {
		seconds := bareTrees(ops, n-1-i)
		for _, first := range bareTrees(ops, i) {
			for _, second := range seconds {
				out = append(out, allOver(ops, first, second)...)
			}
		}
	}
	return out
}

func allOver(ops impl.Table, first impl.Tree, second impl.Tree) []impl.Tree {
	var out []impl.Tree
	for _, o := range ops.Ops {
		if o.Kind == impl.KindInfix {
			out = append(out, in(first, o.Text, second))
		}
	}
	return out
}

// eachGrouping puts zero to most groups around each node of a tree without
// groups, in all ways.
func eachGrouping(tr impl.Tree, most int, do func(impl.Tree)) {
	var choices []int
	for more := range most + 1 {
		choices = append(choices, more)
	}
	eachList(choices, len(tr.Nodes), func(around []int) {
		if len(around) == len(tr.Nodes) {
			do(enclosed(tr, len(tr.Nodes)-1, around))
		}
	})
}

func enclosed(tr impl.Tree, place int, around []int) impl.Tree {
	n := tr.Nodes[place]
	out := tree(n)
	if n.Kind == impl.NodeInfix {
		out = in(enclosed(tr, n.A, around), n.Text, enclosed(tr, n.B, around))
	} else if hasOneKid(n.Kind) {
		out = above(n.Kind, n.Text, enclosed(tr, n.A, around))
	}
	for range around[place] {
		out = group(out)
	}
	return out
}

// retexted gives all infix nodes the text.
func retexted(tr impl.Tree, text string) impl.Tree {
	out := tree(slices.Clone(tr.Nodes)...)
	for i, n := range out.Nodes {
		if n.Kind == impl.NodeInfix {
			out.Nodes[i].Text = text
		}
	}
	return out
}

// leftGrouped has n leaves: ((a ^ a) ^ a) ^ a .. with those brackets.
func leftGrouped(n int, text string) impl.Tree {
	nodes := slices.Clone(in(atom("a"), text, atom("a")).Nodes)
	for range n - 2 {
		nodes = append(nodes, node(impl.NodeGroup, "", len(nodes)-1, 0), atom("a").Nodes[0])
		nodes = append(nodes, node(impl.NodeInfix, text, len(nodes)-2, len(nodes)-1))
	}
	return tree(nodes...)
}

// rightGrouped has n leaves: a + (a + (a + a)) .. with those brackets.
func rightGrouped(n int, text string) impl.Tree {
	nodes := slices.Repeat(atom("a").Nodes, n)
	nodes = append(nodes, node(impl.NodeInfix, text, n-2, n-1))
	for first := n - 3; first >= 0; first-- {
		nodes = append(nodes, node(impl.NodeGroup, "", len(nodes)-1, 0))
		nodes = append(nodes, node(impl.NodeInfix, text, first, len(nodes)-1))
	}
	return tree(nodes...)
}

// onTop puts the prefix operator n times above the tree.
func onTop(n int, text string, tr impl.Tree) impl.Tree {
	for range n {
		tr = pre(text, tr)
	}
	return tr
}
