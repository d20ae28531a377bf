package tests

import (
	"math"
	"slices"
	"strings"
	"testing"

	"loop.example/s0059/impl"
)

func TestTreeOkOfEachKind(t *testing.T) {
	ops := documented()
	a, b := atom("a"), atom("1")
	wantTreeCode(t, ops, a, 0)
	wantTreeCode(t, ops, b, 0)
	wantTreeCode(t, ops, pre("-", a), 0)
	wantTreeCode(t, ops, post(a, "!"), 0)
	wantTreeCode(t, ops, in(a, "+", b), 0)
	wantTreeCode(t, ops, group(a), 0)
	wantTreeCode(t, ops, group(group(in(group(pre("~", a)), "*", post(b, "!")))), 0)
	wantTreeCode(t, ops, in(in(a, "*", b), "+", in(a, "*", b)), 0)
	wantTreeCode(t, ops, in(in(a, "+", b), "*", in(a, "+", b)), 3)
	wantTreeCode(t, ops, pre("-", pre("~", a)), 3)
	wantTreeCode(t, ops, post(pre("-", a), "!"), 3)
}

func TestTreeOkNumberOfNodes(t *testing.T) {
	ops := table(prefix("-", 9), postfix("!", 10), infix("+", 6, impl.SideLeft), infix("^", 8, impl.SideRight))
	wantTreeCode(t, ops, tree(), 2)
	wantTreeCode(t, ops, impl.Tree{}, 2)
	wantTreeCode(t, ops, atom("a"), 0)
	for _, n := range []impl.Node{
		node(impl.NodePrefix, "-", 0, 0), node(impl.NodePostfix, "!", 0, 0), node(impl.NodeGroup, "", 0, 0),
	} {
		wantTreeCode(t, ops, chain(impl.MaxNodes-1, n), 0)
		wantTreeCode(t, ops, chain(impl.MaxNodes, n), 0)
		wantTreeCode(t, ops, chain(impl.MaxNodes+1, n), 2)
		wantTreeCode(t, ops, chain(2*impl.MaxNodes, n), 2)
	}
	for _, high := range []impl.Tree{leftHigh(impl.MaxNodes / 2), rightHigh(impl.MaxNodes / 2)} {
		wantTreeCode(t, ops, high, 0)
		wantTreeCode(t, ops, group(high), 0)
		wantTreeCode(t, ops, group(group(high)), 2)
	}
}

// leftHigh has n leaves: ((a + a) + a) + a ..
func leftHigh(n int) impl.Tree {
	nodes := atom("a").Nodes
	for len(nodes) < 2*n-1 {
		at := len(nodes)
		nodes = append(nodes, atom("a").Nodes[0], node(impl.NodeInfix, "+", at-1, at))
	}
	return tree(nodes...)
}

// rightHigh has n leaves: a ^ (a ^ (a ^ a)) ..
func rightHigh(n int) impl.Tree {
	nodes := slices.Repeat(atom("a").Nodes, n)
	for first := n - 2; first >= 0; first-- {
		nodes = append(nodes, node(impl.NodeInfix, "^", first, len(nodes)-1))
	}
	return tree(nodes...)
}

func TestTreeOkKidsAtOtherPlaces(t *testing.T) {
	ops := documented()
	a := atom("a").Nodes[0]
	for _, kind := range []int{impl.NodePrefix, impl.NodePostfix, impl.NodeGroup} {
		text := map[int]string{impl.NodePrefix: "-", impl.NodePostfix: "!", impl.NodeGroup: ""}[kind]
		wantTreeCode(t, ops, tree(a, node(kind, text, 0, 0)), 0)
		wantTreeCode(t, ops, tree(a, node(kind, text, 1, 0)), 2)
		wantTreeCode(t, ops, tree(a, node(kind, text, 2, 0)), 2)
		wantTreeCode(t, ops, tree(a, node(kind, text, -1, 0)), 2)
		wantTreeCode(t, ops, tree(a, node(kind, text, 0, 1)), 2)
		wantTreeCode(t, ops, tree(a, node(kind, text, 0, -1)), 2)
		wantTreeCode(t, ops, tree(node(kind, text, 0, 0)), 2)
		wantTreeCode(t, ops, tree(node(kind, text, -1, 0)), 2)
		wantTreeCode(t, ops, tree(node(kind, text, 1, 0), a), 2)
		wantTreeCode(t, ops, tree(a, a, node(kind, text, 0, 0)), 2)
		wantTreeCode(t, ops, tree(a, node(impl.NodeGroup, "", 0, 0), node(kind, text, 0, 0)), 2)
	}
	for first := -2; first <= 4; first++ {
		for second := -2; second <= 4; second++ {
			code := 2
			if first == 0 && second == 1 {
				code = 0
			}
			wantTreeCode(t, ops, tree(a, a, node(impl.NodeInfix, "+", first, second)), code)
			wantTreeCode(t, ops, tree(a, node(impl.NodeInfix, "+", first, second)), 2)
			wantTreeCode(t, ops, tree(node(impl.NodeInfix, "+", first, second)), 2)
			if first != 0 || second != 0 {
				wantTreeCode(t, ops, tree(node(impl.NodeName, "a", first, second)), 2)
				wantTreeCode(t, ops, tree(node(impl.NodeNumber, "1", first, second)), 2)
				wantTreeCode(t, ops, tree(a, node(impl.NodeName, "a", first, second), node(impl.NodeInfix, "+", 0, 1)), 2)
			}
		}
	}
}

func TestTreeOkStretchThatBeginsLater(t *testing.T) {
	ops := documented()
	a := atom("a").Nodes[0]
	wantTreeCode(t, ops, tree(a, a), 2)
	wantTreeCode(t, ops, tree(a, a, a), 2)
	wantTreeCode(t, ops, tree(a, a, node(impl.NodePrefix, "-", 1, 0)), 2)
	wantTreeCode(t, ops, tree(a, a, a, node(impl.NodeInfix, "+", 1, 2)), 2)
	wantTreeCode(t, ops, tree(slices.Concat(pre("-", atom("a")).Nodes, []impl.Node{a})...), 2)
	// The kids change places, and the place of A is inside the stretch of B.
	wantTreeCode(t, ops, tree(a, a, node(impl.NodeGroup, "", 1, 0), node(impl.NodeInfix, "+", 0, 2)), 0)
	wantTreeCode(t, ops, tree(a, a, node(impl.NodeGroup, "", 1, 0), node(impl.NodeInfix, "+", 1, 2)), 2)
	wantTreeCode(t, ops, tree(a, a, node(impl.NodeGroup, "", 1, 0), node(impl.NodeInfix, "+", 2, 0)), 2)
	wantTreeCode(t, ops, tree(a, a, node(impl.NodeGroup, "", 0, 0), node(impl.NodeInfix, "+", 1, 2)), 2)
}

func TestTreeOkForms(t *testing.T) {
	ops := documented()
	a := atom("a").Nodes[0]
	full := strings.Repeat("7", impl.MaxText)
	for _, text := range []string{"0", "1234567890", "007", full} {
		wantTreeCode(t, ops, tree(node(impl.NodeNumber, text, 0, 0)), 0)
		wantTreeCode(t, ops, tree(node(impl.NodeName, text, 0, 0)), 2)
	}
	for _, text := range []string{"a", "_", "Z9_", "z", "A", "_0", "a" + full[1:]} {
		wantTreeCode(t, ops, tree(node(impl.NodeName, text, 0, 0)), 0)
		wantTreeCode(t, ops, tree(node(impl.NodeNumber, text, 0, 0)), 2)
	}
	for _, text := range []string{"", "1a", "a-", "-", "a b", " a", "a ", "1 ", " 1", "1.5", "é", "aé", "\xff", "a\x00",
		"(", "[", "@", "`", "{", "/", ":", "a\n", "1\n", "+1", full + "7", "a" + full} {
		wantTreeCode(t, ops, tree(node(impl.NodeName, text, 0, 0)), 2)
		wantTreeCode(t, ops, tree(node(impl.NodeNumber, text, 0, 0)), 2)
		wantTreeCode(t, ops, tree(a, node(impl.NodeName, text, 0, 0), node(impl.NodeInfix, "+", 0, 1)), 2)
		if text != "" {
			wantTreeCode(t, ops, tree(a, node(impl.NodeGroup, text, 0, 0)), 2)
		}
	}
	wantTreeCode(t, ops, tree(a, node(impl.NodeGroup, "(", 0, 0)), 2)
	wantTreeCode(t, ops, tree(a, node(impl.NodeGroup, "()", 0, 0)), 2)
}

func TestTreeOkOperatorTexts(t *testing.T) {
	full := strings.Repeat("<", impl.MaxSigns)
	ops := table(prefix(full, 9), infix(full, 8, impl.SideLeft), postfix("<", 7))
	a := atom("a")
	wantTreeCode(t, ops, pre(full, a), 0)
	wantTreeCode(t, ops, in(a, full, a), 0)
	wantTreeCode(t, ops, post(a, "<"), 0)
	for _, text := range []string{"", full + "<", full[1:], "a", "1", "(", ")", "< ", " <", "<\n", "\xff"} {
		wantTreeCode(t, ops, pre(text, a), 2)
		wantTreeCode(t, ops, in(a, text, a), 2)
		wantTreeCode(t, ops, post(a, text), 2)
	}
}

func TestTreeOkOperatorOfAnotherKind(t *testing.T) {
	ops := documented()
	a := atom("a")
	for _, text := range []string{"+", "*", "==", "!", "<", "=", "-~"} {
		wantTreeCode(t, ops, pre(text, a), 2)
	}
	for _, text := range []string{"+", "*", "==", "-", "~", "<", "!!"} {
		wantTreeCode(t, ops, post(a, text), 2)
	}
	for _, text := range []string{"-", "~", "!", "<", "="} {
		wantTreeCode(t, ops, in(a, text, a), 2)
	}
	both := table(prefix("-", 9), infix("-", 6, impl.SideLeft))
	wantTreeCode(t, both, in(pre("-", a), "-", pre("-", a)), 0)
	wantTreeCode(t, both, post(a, "-"), 2)
	wantTreeCode(t, both, pre("-", in(a, "-", a)), 3)
	wantTreeCode(t, table(), pre("-", a), 2)
	wantTreeCode(t, table(), group(a), 0)
}

func TestTreeOkKindsThatAreNone(t *testing.T) {
	ops := documented()
	a := atom("a").Nodes[0]
	kinds := []int{math.MinInt, math.MinInt + 1, math.MaxInt, math.MaxInt - 1, -1 << 32, 1 << 32, 1<<32 + 1, 1<<32 + 4}
	for kind := -300; kind <= 300; kind++ {
		if kind < impl.NodeNumber || kind > impl.NodeGroup {
			kinds = append(kinds, kind)
		}
	}
	for _, kind := range kinds {
		for _, text := range []string{"", "a", "1", "-", "+", "!"} {
			wantTreeCode(t, ops, tree(node(kind, text, 0, 0)), 2)
			wantTreeCode(t, ops, tree(a, node(kind, text, 0, 0)), 2)
			wantTreeCode(t, ops, tree(a, a, node(kind, text, 0, 1)), 2)
			wantTreeCode(t, ops, tree(node(kind, text, 0, 0), node(impl.NodePrefix, "-", 0, 0)), 2)
		}
	}
}

func TestTreeOkFarPlaces(t *testing.T) {
	ops := documented()
	a := atom("a").Nodes[0]
	for _, far := range []int{math.MinInt, math.MinInt + 1, -1 << 40, -1, 1 << 31, 1 << 32, 1<<32 + 1, math.MaxInt - 1, math.MaxInt} {
		wantTreeCode(t, ops, tree(node(impl.NodeName, "a", far, 0)), 2)
		wantTreeCode(t, ops, tree(node(impl.NodeNumber, "1", 0, far)), 2)
		wantTreeCode(t, ops, tree(a, node(impl.NodePrefix, "-", far, 0)), 2)
		wantTreeCode(t, ops, tree(a, node(impl.NodePrefix, "-", 0, far)), 2)
		wantTreeCode(t, ops, tree(a, node(impl.NodePostfix, "!", far, 0)), 2)
		wantTreeCode(t, ops, tree(a, node(impl.NodePostfix, "!", 0, far)), 2)
		wantTreeCode(t, ops, tree(a, node(impl.NodeGroup, "", far, 0)), 2)
		wantTreeCode(t, ops, tree(a, node(impl.NodeGroup, "", 0, far)), 2)
		wantTreeCode(t, ops, tree(a, a, node(impl.NodeInfix, "+", far, 1)), 2)
		wantTreeCode(t, ops, tree(a, a, node(impl.NodeInfix, "+", 0, far)), 2)
		wantTreeCode(t, ops, tree(a, a, node(impl.NodeInfix, "+", far, far)), 2)
	}
}

func TestTreeOkFirstCode(t *testing.T) {
	a := atom("a")
	notAdmissible := pre("-", pre("~", a))
	notKnown := pre("&", a)
	both := in(notAdmissible, "+", notKnown)
	trees := []impl.Tree{tree(), a, notAdmissible, notKnown, both, tree(node(9, "", -1, -1)), chain(impl.MaxNodes+1, notKnown.Nodes[1])}
	for _, ops := range notValid() {
		for _, tr := range trees {
			wantTreeCode(t, ops, tr, 1)
		}
	}
	for _, o := range illFormed() {
		wantTreeCode(t, table(o), a, 1)
	}
	ops := documented()
	wantTreeCode(t, ops, notAdmissible, 3)
	wantTreeCode(t, ops, notKnown, 2)
	wantTreeCode(t, ops, both, 2)
	wantTreeCode(t, ops, in(notKnown, "+", notAdmissible), 2)
	wantTreeCode(t, ops, in(notAdmissible, "+", tree(node(impl.NodeName, "1a", 0, 0))), 2)
	wantTreeCode(t, ops, tree(append(slices.Clone(notAdmissible.Nodes), a.Nodes[0])...), 2)
	wantTreeCode(t, ops, group(in(notAdmissible, "+", post(a, "-"))), 2)
}

// holed is a tree with the kid in one hole of the operator.
func holed(o impl.Op, second bool, kid impl.Tree) impl.Tree {
	switch {
	case o.Kind == impl.KindPrefix:
		return pre(o.Text, kid)
	case o.Kind == impl.KindPostfix:
		return post(kid, o.Text)
	case second:
		return in(atom("a"), o.Text, kid)
	}
	return in(kid, o.Text, atom("a"))
}

// eachKind has the operators of the text and level of each kind and side.
func eachKind(text string, level int) []impl.Op {
	return []impl.Op{
		prefix(text, level), postfix(text, level), infix(text, level, impl.SideLeft),
		infix(text, level, impl.SideRight), infix(text, level, impl.SideNone),
	}
}

// eachHole hands over the holes, with their leasts, of operators of each kind
// and side.
func eachHole(do func(o impl.Op, second bool, least int)) {
	for _, level := range []int{2, 500, impl.MaxLevel - 2, impl.MaxLevel} {
		for _, o := range eachKind("*", level) {
			first, second := wordedLeast(o)
			do(o, false, first)
			if o.Kind == impl.KindInfix {
				do(o, true, second)
			}
		}
	}
}

// eachKid hands over kids of levels around the least, with a table, and says
// whether the kid is below the least.
func eachKid(t *testing.T, o impl.Op, least int, do func(ops impl.Table, k impl.Op, kid impl.Tree, below bool)) {
	t.Helper()
	for level := least - 1; level <= min(least+1, impl.MaxLevel); level++ {
		tried := 0
		for _, k := range eachKind("&", level) {
			ops := table(o, k)
			if impl.TableOk(ops) == 0 {
				tried++
				do(ops, k, holed(k, false, atom("b")), level < least)
			}
		}
		if tried == 0 {
			t.Errorf("%v: no kid of level %d", o, level)
		}
	}
}

func TestTreeOkAtTheLeastOfEachHole(t *testing.T) {
	eachHole(func(o impl.Op, second bool, least int) {
		eachKid(t, o, least, func(ops impl.Table, k impl.Op, kid impl.Tree, below bool) {
			code := 0
			if below {
				code = 3
			}
			wantTreeCode(t, ops, holed(o, second, kid), code)
			wantTreeCode(t, ops, group(holed(o, second, kid)), code)
			wantTreeCode(t, ops, holed(o, second, group(kid)), 0)
			wantTreeCode(t, ops, group(holed(k, false, group(holed(o, second, group(group(kid)))))), 0)
		})
		for _, kid := range []impl.Tree{atom("b"), atom("1"), group(atom("b")), group(holed(o, second, atom("b")))} {
			wantTreeCode(t, table(o), holed(o, second, kid), 0)
		}
	})
}

func TestTreeOkGroupOfAnyLevel(t *testing.T) {
	for _, level := range []int{1, 2, impl.MaxLevel} {
		for _, o := range eachKind("*", level) {
			kid := holed(o, true, atom("b"))
			wantTreeCode(t, table(o), group(kid), 0)
			wantTreeCode(t, table(o), group(group(kid)), 0)
			wantTreeCode(t, table(o), holed(o, true, group(kid)), 0)
			wantTreeCode(t, table(o), holed(o, false, group(kid)), 0)
		}
	}
}

func TestTreeOkOfAllSmallTrees(t *testing.T) {
	ops := table(prefix("-", 2), infix("-", 1, impl.SideLeft), postfix("!", 3))
	var pool []impl.Node
	for _, n := range []impl.Node{
		node(impl.NodePrefix, "-", 0, 0), node(impl.NodeInfix, "-", 0, 0), node(impl.NodePostfix, "!", 0, 0),
	} {
		for place := range 20 {
			n.A, n.B = place%4, place/4-1
			pool = append(pool, n)
		}
	}
	pool = append(pool, node(impl.NodeName, "a", 0, 0), node(impl.NodeNumber, "1", 0, 0), node(impl.NodeGroup, "", 0, 0),
		node(impl.NodeGroup, "", 1, 0), node(impl.NodeGroup, "", 2, 0), node(impl.NodePostfix, "-", 1, 0))
	eachList(pool, 3, func(nodes []impl.Node) {
		if got, want := impl.TreeOk(ops, tree(nodes...)), wordedTreeOk(ops, tree(nodes...)); got != want {
			t.Fatalf("%v: %d, not %d", nodes, got, want)
		}
	})
}

// The pool leaves out places that are never right, so that lists of five nodes
// can be gone through.
func TestTreeOkOfSmallTreesWithLikelyPlaces(t *testing.T) {
	ops := table(prefix("-", 2), infix("-", 1, impl.SideLeft), postfix("!", 3))
	pool := []impl.Node{node(impl.NodeName, "a", 0, 0), node(impl.NodeGroup, "", 1, 0), node(impl.NodeGroup, "", 2, 0)}
	for place := range 4 {
		pool = append(pool, node(impl.NodePrefix, "-", place, 0))
		for first := range place {
			pool = append(pool, node(impl.NodeInfix, "-", first, place))
		}
	}
	eachList(pool, 5, func(nodes []impl.Node) {
		if got, want := impl.TreeOk(ops, tree(nodes...)), wordedTreeOk(ops, tree(nodes...)); got != want {
			t.Fatalf("%v: %d, not %d", nodes, got, want)
		}
	})
}

func TestTreeOkChangesNoArgument(t *testing.T) {
	ops, opsMemory := roomy(documented().Ops)
	opsKept := slices.Clone(opsMemory)
	for _, tr := range []impl.Tree{in(group(atom("a")), "+", pre("-", atom("b"))), pre("-", pre("~", atom("a"))), post(atom("a"), "-")} {
		given, memory := roomyTree(tr)
		kept := slices.Clone(memory)
		first := impl.TreeOk(ops, given)
		if second := impl.TreeOk(ops, given); first != second {
			t.Errorf("%s: code %d, then %d", shownTree(tr), first, second)
		}
		if !slices.Equal(memory, kept) || !slices.Equal(opsMemory, opsKept) {
			t.Errorf("an argument has changed: %v %v", memory, opsMemory)
		}
	}
}
