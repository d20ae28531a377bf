package tests

import (
	"strings"
	"testing"

	"loop.example/s0059/impl"
)

// deepOps has an operator of each sort that can be put upon itself.
func deepOps() impl.Table {
	return table(
		prefix("~", 1), infix("+", 6, impl.SideLeft), infix("^", 8, impl.SideRight), postfix("!", 10),
		prefix("-", 9), infix("=", 4, impl.SideNone),
	)
}

// deepTexts has a text for each way of being of that height.
func deepTexts(height int) []string {
	n := height - 1
	return []string{
		strings.Repeat("(", n) + "a" + strings.Repeat(")", n),
		strings.Repeat("~", n) + "a",
		"a" + strings.Repeat("!", n),
		"a" + strings.Repeat("+a", n),
		"a" + strings.Repeat("^a", n),
	}
}

func deepTrees(height int) []impl.Tree {
	return []impl.Tree{
		chain(height, node(impl.NodeGroup, "", 0, 0)),
		chain(height, node(impl.NodePrefix, "~", 0, 0)),
		chain(height, node(impl.NodePostfix, "!", 0, 0)),
		leftHigh(height),
		rightHigh(height),
	}
}

func TestParseHeights(t *testing.T) {
	ops := deepOps()
	for _, height := range []int{1, 2, 3, impl.MaxHeight - 1, impl.MaxHeight} {
		want := deepTrees(height)
		for i, s := range deepTexts(height) {
			wantTree(t, ops, s, want[i])
		}
	}
	for _, height := range []int{impl.MaxHeight + 1, impl.MaxHeight + 2, impl.MaxText / 2} {
		for _, s := range deepTexts(height) {
			wantRefusal(t, ops, s, 6, 0)
		}
	}
}

// The high part stands in the one kid or in the other, beside a low one.
func TestParseHeightOfTheHigherKid(t *testing.T) {
	ops := deepOps()
	for s, more := range map[string]int{
		"%": 0, "%+a": 1, "a+%": 1, "%^a": 1, "a^%": 1, "%=a": 1, "a=%": 1, "-%": 1, "%!": 1, "(%)": 1,
		"%^a+a": 2, "a+a^%": 2, "-%^a": 2, "a^-%": 2, "%!=a": 2, "a=%!": 2, "a^a+%": 1, "%+a^a": 1, "%+a+a": 2, "a+a+%": 1,
	} {
		high := strings.ReplaceAll(s, "%", deepTexts(impl.MaxHeight - more)[0])
		got, code, at := impl.Parse(ops, high)
		if code != 0 || at != 0 || impl.TreeOk(ops, got) != 0 {
			t.Errorf("%s: %d %d", s, code, at)
		} else if height := wordedHeight(got, len(got.Nodes)-1); height != impl.MaxHeight {
			t.Errorf("%s: height %d", s, height)
		}
		wantRefusal(t, ops, strings.ReplaceAll(s, "%", deepTexts(impl.MaxHeight - more + 1)[0]), 6, 0)
	}
	wide := strings.Repeat(deepTexts(impl.MaxHeight - 9)[0]+"+", 9) + "a"
	if got, code, _ := impl.Parse(ops, wide); code != 0 || impl.TreeOk(ops, got) != 0 {
		t.Errorf("wide: %d", code)
	}
}

func TestParseDeepestTexts(t *testing.T) {
	ops := deepOps()
	half, full := impl.MaxText/2, impl.MaxText
	for _, s := range []string{
		strings.Repeat("(", half-1) + "aa" + strings.Repeat(")", half-1),
		strings.Repeat("~", full-1) + "a",
		strings.Repeat("-", full-1) + "a",
		"a" + strings.Repeat("!", full-1),
		"aa" + strings.Repeat("+a", half-1),
		"aa" + strings.Repeat("^a", half-1),
		strings.Repeat("~", half-1) + "aa" + strings.Repeat("!", half-1),
		strings.Repeat("~(", full/3-1) + strings.Repeat(" ", full%3+2) + "a" + strings.Repeat(")", full/3-1),
		strings.Repeat("a+(", full/4-1) + "aaaa" + strings.Repeat(")", full/4-1),
		strings.Repeat("(", full/4-1) + "aaaa" + strings.Repeat("+a)", full/4-1),
		strings.Repeat("a^~(", full/5-1) + "aaaaa" + strings.Repeat(")", full/5-1),
	} {
		if len(s) != full {
			t.Fatalf("%s", shownText(s))
		}
		code := 6
		if strings.Contains(s, "^~") {
			code = 5
		}
		wantRefusal(t, ops, s, code, 0)
		wantRefusal(t, ops, s+" ", 2, 0)
		wantRefusal(t, ops, " "+s, 2, 0)
	}
}

func TestParseLongTextsThatAreNotDeep(t *testing.T) {
	ops := deepOps()
	word := strings.Repeat("x", impl.MaxText)
	wantTree(t, ops, word, atom(word))
	wantRefusal(t, ops, word+"x", 2, 0)
	digits := strings.Repeat("7", impl.MaxText)
	wantTree(t, ops, digits, atom(digits))
	blanks := strings.Repeat(" \n", impl.MaxText/2-1)
	wantTree(t, ops, blanks+"a ", atom("a"))
	wantTree(t, ops, "(a)"+blanks[1:], group(atom("a")))
	s, want := balanced(13)
	if len(s) > impl.MaxText {
		t.Fatal(len(s))
	}
	wantTree(t, table(levels(13)...), s, want)
}

// balanced gives an expression with 2 to the n leaves and of height n+1, and
// its tree, over the operators of levels(n).
func balanced(n int) (string, impl.Tree) {
	if n == 0 {
		return "a", atom("a")
	}
	s, kid := balanced(n - 1)
	o := levels(n)[n-1]
	return s + o.Text + s, in(kid, o.Text, kid)
}

// levels gives n infix operators of one sign, each weaker than the one before.
func levels(n int) []impl.Op {
	var ops []impl.Op
	for i := range n {
		ops = append(ops, infix(allSigns[i:i+1], impl.MaxLevel-i, 1+i%3))
	}
	return ops
}

func TestParseNoTreeComesBeforeTooHigh(t *testing.T) {
	ops := deepOps()
	for _, height := range []int{impl.MaxHeight + 1, impl.MaxText/2 - 10} {
		for _, s := range deepTexts(height) {
			wantRefusal(t, ops, s+"=a=a", 5, 0)
			wantRefusal(t, ops, "a=a="+strings.TrimLeft(s, "~"), 5, 0)
			wantRefusal(t, ops, "a=("+s+")=a", 5, 0)
			wantRefusal(t, ops, "(-~a)+("+s+")", 5, 0)
			wantRefusal(t, ops, "("+s+")+(-~a)", 5, 0)
		}
		wantRefusal(t, ops, "-"+strings.Repeat("~", height)+"a", 5, 0)
		wantRefusal(t, ops, "a^"+strings.Repeat("~", height)+"a", 5, 0)
		wantRefusal(t, ops, strings.Repeat("~", height)+"-~a", 5, 0)
		wantRefusal(t, ops, strings.Repeat("(", height)+"a+~a"+strings.Repeat(")", height), 5, 0)
	}
}
