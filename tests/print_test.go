package tests

import (
	"slices"
	"strings"
	"testing"

	"loop.example/s0059/impl"
)

func TestPrintExamples(t *testing.T) {
	ops := documented()
	a, b, c := atom("a"), atom("b"), atom("c")
	wantPrinted(t, ops, in(pre("-", a), "*", post(in(b, "+", c), "!")), "-a * (b + c)!")
	wantPrinted(t, ops, pre("-", pre("-", post(post(a, "!"), "!"))), "- -a! !")
}

func TestPrintWords(t *testing.T) {
	ops := documented()
	for _, text := range []string{"a", "_", "x_1", "Z", "0", "007", "12345678901234567890123"} {
		wantPrinted(t, ops, atom(text), text)
		wantPrinted(t, table(), atom(text), text)
		wantPrinted(t, ops, group(group(atom(text))), text)
		wantPrinted(t, ops, pre("-", atom(text)), "-"+text)
		wantPrinted(t, ops, post(atom(text), "!"), text+"!")
		wantPrinted(t, ops, in(atom(text), "+", atom(text)), text+" + "+text)
	}
}

// weakAndTight has operators of each kind that need brackets around themselves
// and that make others need them.
func weakAndTight() impl.Table {
	return table(
		prefix("~", 1), postfix("?", 2), infix("=", 3, impl.SideNone), infix("+", 4, impl.SideLeft), infix("^", 5, impl.SideRight),
		prefix("-", 9), postfix("!", 10),
	)
}

// Each text has, side by side, the tokens that its line names.
func TestPrintBlanks(t *testing.T) {
	ops := weakAndTight()
	a, b, c := atom("a"), atom("1"), atom("c")
	for _, line := range []struct {
		what string
		tr   impl.Tree
		want string
	}{
		{"word, infix, word", in(a, "+", b), "a + 1"},
		{"word, infix, word again", in(in(a, "+", b), "+", c), "a + 1 + c"},
		{"infix, prefix", in(a, "+", pre("-", b)), "a + -1"},
		{"infix, two prefix", in(a, "+", pre("-", pre("-", b))), "a + - -1"},
		{"postfix, infix", in(post(a, "!"), "+", b), "a! + 1"},
		{"two postfix, infix", in(post(post(a, "!"), "!"), "+", b), "a! ! + 1"},
		{"postfix, infix, prefix", in(post(a, "!"), "=", pre("-", b)), "a! = -1"},
		{"infix, open bracket", in(a, "^", in(b, "+", c)), "a ^ (1 + c)"},
		{"close bracket, infix", in(in(a, "+", b), "^", c), "(a + 1) ^ c"},
		{"close bracket, infix, open bracket", in(in(a, "=", b), "=", in(b, "=", c)), "(a = 1) = (1 = c)"},
		{"prefix, prefix", pre("-", pre("-", a)), "- -a"},
		{"prefix, another prefix", pre("~", pre("-", a)), "~ -a"},
		{"postfix, postfix", post(post(a, "!"), "!"), "a! !"},
		{"postfix, another postfix", post(post(a, "!"), "?"), "a! ?"},
		{"prefix, word, postfix", pre("-", post(b, "!")), "-1!"},
		{"prefix, open bracket, word", pre("-", in(a, "+", b)), "-(a + 1)"},
		{"prefix, open bracket, prefix", pre("-", pre("~", a)), "-(~a)"},
		{"word, close bracket, postfix", post(in(a, "+", b), "!"), "(a + 1)!"},
		{"postfix, close bracket, postfix", post(post(a, "?"), "!"), "(a?)!"},
		{"open bracket, prefix", post(pre("~", a), "!"), "(~a)!"},
		{"open bracket, open bracket", post(in(in(a, "=", b), "=", c), "!"), "((a = 1) = c)!"},
		{"close bracket, close bracket", pre("-", in(a, "=", in(b, "=", c))), "-(a = (1 = c))"},
		{"close bracket, postfix, close bracket", post(pre("-", post(in(a, "+", b), "!")), "!"), "(-(a + 1)!)!"},
		{"open bracket, prefix, open bracket", post(pre("-", in(a, "+", b)), "!"), "(-(a + 1))!"},
		{"close bracket, two postfix", post(post(in(a, "+", b), "!"), "!"), "(a + 1)! !"},
		{"two prefix, open bracket", pre("-", pre("-", in(a, "+", b))), "- -(a + 1)"},
		{"prefix, open bracket, two prefix", pre("-", pre("~", pre("~", a))), "-(~ ~a)"},
		{"two postfix, close bracket", post(post(post(a, "?"), "?"), "!"), "(a? ?)!"},
		{"infix, open bracket, prefix", in(a, "^", pre("~", b)), "a ^ (~1)"},
		{"postfix, close bracket, infix", in(post(a, "?"), "^", b), "(a?) ^ 1"},
	} {
		if got := wordedPrint(ops, line.tr); got != line.want {
			t.Fatalf("%s: the words give %q", line.what, got)
		}
		wantPrinted(t, ops, line.tr, line.want)
		wantPrinted(t, ops, group(group(line.tr)), line.want)
		wantReadBack(t, ops, line.tr)
	}
}

func TestPrintLeavesNeedlessBracketsOut(t *testing.T) {
	ops := documented()
	a, b, c := atom("a"), atom("b"), atom("c")
	wantPrinted(t, ops, group(in(group(in(group(a), "*", b)), "+", group(group(c)))), "a * b + c")
	wantPrinted(t, ops, group(pre("-", group(post(group(a), "!")))), "-a!")
	wantPrinted(t, ops, pre("~", group(in(a, "==", group(b)))), "~a == b")
	wantPrinted(t, ops, in(group(group(in(a, "+", b))), "*", group(c)), "(a + b) * c")
	wantPrinted(t, ops, in(a, "+", group(group(group(in(b, "+", c))))), "a + (b + c)")
}

func TestPrintOneTextWithTwoOperators(t *testing.T) {
	a, b := atom("a"), atom("b")
	minus := table(prefix("-", 9), infix("-", 6, impl.SideLeft))
	wantPrinted(t, minus, in(a, "-", pre("-", b)), "a - -b")
	wantPrinted(t, minus, in(pre("-", pre("-", a)), "-", pre("-", pre("-", b))), "- -a - - -b")
	wantPrinted(t, minus, pre("-", in(a, "-", b)), "-(a - b)")
	wantPrinted(t, minus, in(a, "-", in(pre("-", a), "-", b)), "a - (-a - b)")
	weak := table(prefix("-", 5), infix("-", 6, impl.SideLeft))
	wantPrinted(t, weak, in(a, "-", pre("-", b)), "a - (-b)")
	wantPrinted(t, weak, in(pre("-", a), "-", b), "(-a) - b")
	wantPrinted(t, weak, pre("-", in(a, "-", b)), "-a - b")
	bang := table(prefix("!", 9), postfix("!", 10), infix("+", 6, impl.SideLeft))
	wantPrinted(t, bang, pre("!", pre("!", post(post(a, "!"), "!"))), "! !a! !")
	wantPrinted(t, bang, post(pre("!", a), "!"), "(!a)!")
	wantPrinted(t, bang, in(post(a, "!"), "+", pre("!", b)), "a! + !b")
	wantPrinted(t, table(prefix("!", 9), postfix("!", 8)), post(pre("!", a), "!"), "!a!")
	wantPrinted(t, table(prefix("!", 9), postfix("!", 8)), pre("!", post(a, "!")), "!(a!)")
}

// Where a text begins another one, only a blank keeps two operators apart.
func TestPrintTextsThatBeginOthers(t *testing.T) {
	ops := sharedTexts()
	a, b := atom("a"), atom("b")
	for want, tr := range map[string]impl.Tree{
		"+ + +a":          pre("+", pre("+", pre("+", a))),
		"a++ ++":          post(post(a, "++"), "++"),
		"a++ + +b":        in(post(a, "++"), "+", pre("+", b)),
		"a++ +++* + +b++": in(post(a, "++"), "+++*", pre("+", pre("+", post(b, "++")))),
		"a - -->b":        in(a, "-", pre("-->", b)),
		"a --> -->b":      in(a, "-->", pre("-->", b)),
		"(~a)~!":          post(pre("~", a), "~!"),
		"~(~a)~! !":       pre("~", post(post(pre("~", a), "~!"), "!")),
		"! !a! ~!":        pre("!", pre("!", post(post(a, "!"), "~!"))),
	} {
		wantPrinted(t, ops, tr, want)
		wantReadBack(t, ops, tr)
	}
	full := strings.Repeat("<", impl.MaxSigns)
	long := table(prefix(full, 9), infix(full, 8, impl.SideLeft), prefix("<", 7), postfix(full[1:], 6))
	wantPrinted(t, long, in(pre(full, a), full, pre(full, b)), full+"a "+full+" "+full+"b")
	wantReadBack(t, long, pre("<", in(pre(full, a), full, post(pre("<", b), full[1:]))))
}

func TestPrintLongTexts(t *testing.T) {
	ops := deepOps()
	word, digits := strings.Repeat("x", impl.MaxText), strings.Repeat("7", impl.MaxText)
	wantPrinted(t, ops, atom(word), word)
	wantReadBack(t, ops, atom(word))
	wantReadBack(t, ops, pre("-", atom(word[1:])))
	wantReadBack(t, ops, in(atom(digits[4:]), "+", atom("a")))
	wantReadBack(t, ops, post(pre("-", atom(word[4:])), "!"))
	for want, tr := range map[string]impl.Tree{
		"-" + word:                           pre("-", atom(word)),
		"(-" + word[3:] + ")!":               post(pre("-", atom(word[3:])), "!"),
		word[3:] + " + a":                    in(atom(word[3:]), "+", atom("a")),
		digits + " + " + word:                in(atom(digits), "+", atom(word)),
		word + " ^ (" + word + " + " + "-1)": in(atom(word), "^", in(atom(word), "+", pre("-", atom("1")))),
	} {
		if len(want) <= impl.MaxText {
			t.Fatal(len(want))
		}
		wantPrinted(t, ops, tr, want)
	}
	wide := tree(slices.Repeat(atom(word).Nodes, 100)...)
	for first := 98; first >= 0; first-- {
		wide.Nodes = append(wide.Nodes, node(impl.NodeInfix, "^", first, len(wide.Nodes)-1))
	}
	wantPrinted(t, ops, wide, strings.Repeat(word+" ^ ", 99)+word)
}

func TestPrintHighestTrees(t *testing.T) {
	ops := deepOps()
	const most = impl.MaxNodes
	weak, brackets, behind := node(impl.NodePrefix, "~", 0, 0), node(impl.NodeGroup, "", 0, 0), node(impl.NodePostfix, "!", 0, 0)
	wantPrinted(t, ops, chain(most, brackets), "a")
	wantPrinted(t, ops, chain(most, weak), strings.Repeat("~ ", most-2)+"~a")
	wantPrinted(t, ops, chain(most, behind), "a!"+strings.Repeat(" !", most-2))
	wantPrinted(t, ops, chain(most, brackets, behind), "a!"+strings.Repeat(" !", most/2-2))
	wantPrinted(t, ops, leftHigh(most/2), "a"+strings.Repeat(" + a", most/2-1))
	wantPrinted(t, ops, group(rightHigh(most/2)), "a"+strings.Repeat(" ^ a", most/2-1))
	const leaves = 6667
	left := strings.Repeat("(", leaves-2) + "a ^ a" + strings.Repeat(") ^ a", leaves-2)
	wantPrinted(t, ops, retexted(leftHigh(leaves), "^"), left)
	wantPrinted(t, ops, onTop(2, "~", leftGrouped(leaves, "^")), "~ ~"+left)
	right := strings.Repeat("a + (", leaves-2) + "a + a" + strings.Repeat(")", leaves-2)
	wantPrinted(t, ops, retexted(rightHigh(leaves), "+"), right)
	wantPrinted(t, ops, onTop(2, "~", rightGrouped(leaves, "+")), "~ ~"+right)
	wantPrinted(t, ops, chain(13334, weak, node(impl.NodePrefix, "-", 0, 0)),
		"~ "+strings.Repeat("-(~ ", 6665)+"-(~a"+strings.Repeat(")", 6666))
}

// Every second node of the printed tree is a group, so that it is nearly twice
// as high as the tree.
func TestParseOfPrintOfHighTrees(t *testing.T) {
	ops := deepOps()
	const half = impl.MaxHeight / 2
	weak, tight := node(impl.NodePrefix, "~", 0, 0), node(impl.NodePrefix, "-", 0, 0)
	for _, height := range []int{1, 2, 3, half - 1, half} {
		for i, tr := range deepTrees(height) {
			if i > 0 {
				wantReadBack(t, ops, tr)
			}
		}
		for _, tr := range []impl.Tree{
			retexted(leftHigh(height), "^"), retexted(rightHigh(height), "+"),
			retexted(leftHigh(height), "="), retexted(rightHigh(height), "="),
			chain(height, weak, tight), chain(height, tight, node(impl.NodePostfix, "!", 0, 0)),
		} {
			if got := wordedHeight(tr, len(tr.Nodes)-1); got != height {
				t.Fatalf("height %d, not %d", got, height)
			}
			wantReadBack(t, ops, tr)
		}
	}
	for _, tr := range []impl.Tree{retexted(leftHigh(half+2), "="), retexted(rightHigh(half+2), "=")} {
		s, ok := impl.Print(ops, tr)
		if !ok {
			t.Fatal("not printed")
		}
		wantRefusal(t, ops, s, 6, 0)
	}
}

// holdPrint holds Print against the document's words and asks for what is
// promised of it; Parse reads the very tree that Group makes.
func holdPrint(t *testing.T, ops impl.Table, tr impl.Tree) {
	t.Helper()
	got, ok := impl.Print(ops, tr)
	if want := wordedPrint(ops, tr); !ok || got != want {
		t.Fatalf("%v, %s: %q %v, not %q", ops, shownTree(tr), got, ok, want)
	}
	read, code, at := impl.Parse(ops, got)
	if with, _ := impl.Group(ops, tr); code != 0 || at != 0 || !sameTree(read, with) {
		t.Fatalf("%v, %s: %q is read as %s %d %d", ops, shownTree(tr), got, shownTree(read), code, at)
	}
	bare, _ := impl.Erase(read)
	if want := wordedErase(tr, len(tr.Nodes)-1); !sameTree(bare, want) {
		t.Fatalf("%v, %s: %q is read and erased as %s", ops, shownTree(tr), got, shownTree(bare))
	}
}

func TestPrintOfAllTreesWithAYield(t *testing.T) {
	for _, ops := range someTables() {
		eachFitting(ops, 5, func(list []impl.Token) {
			for _, tr := range allTrees(ops, list) {
				holdPrint(t, ops, tr)
			}
		})
	}
}

func TestPrintOfAllSmallTrees(t *testing.T) {
	for _, ops := range append(smallTables(), weakAndTight()) {
		for n := range 4 {
			for _, tr := range bareTrees(ops, n) {
				holdPrint(t, ops, tr)
			}
		}
	}
}

func TestPrintOfSmallTreesOverSharedTexts(t *testing.T) {
	for n := range 3 {
		for _, tr := range bareTrees(sharedTexts(), n) {
			holdPrint(t, sharedTexts(), tr)
		}
	}
	dashes := table(prefix("-", 3), prefix("--", 1), prefix("---", 6), infix("-", 4, impl.SideLeft), infix("---", 2, impl.SideNone),
		postfix("--", 5))
	for n := range 4 {
		for _, tr := range bareTrees(dashes, n) {
			holdPrint(t, dashes, tr)
		}
	}
}

func TestPrintChangesNoArgument(t *testing.T) {
	ops, opsMemory := roomy(documented().Ops)
	opsKept := slices.Clone(opsMemory)
	tr := in(group(in(atom("a"), "+", atom("b"))), "*", pre("-", group(atom("c"))))
	given, memory := roomyTree(tr)
	kept := slices.Clone(memory)
	wantPrinted(t, ops, given, "(a + b) * -c")
	wantPrinted(t, ops, given, "(a + b) * -c")
	if !slices.Equal(memory, kept) || !slices.Equal(opsMemory, opsKept) {
		t.Errorf("an argument has changed: %v %v", memory, opsMemory)
	}
}
