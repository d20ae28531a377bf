package tests

import (
	"slices"
	"strings"
	"testing"

	"loop.example/s0059/impl"
)

func TestParseExamples(t *testing.T) {
	ops := documented()
	a, b := atom("a"), atom("b")
	wantTree(t, ops, "-a!", pre("-", post(a, "!")))
	wantTree(t, ops, "- a * b", in(pre("-", a), "*", b))
	wantTree(t, ops, "~ a * b", pre("~", in(a, "*", b)))
	wantRefusal(t, ops, "a * ~ b", 5, 0)
	wantTree(t, ops, "a * (~ b)", in(a, "*", group(pre("~", b))))
	wantRefusal(t, ops, "a == b == c", 5, 0)
	wantTree(t, ops, "(a!) !", post(group(post(a, "!")), "!"))
	wantRefusal(t, ops, "a b", 4, 2)
}

func TestParseLeaves(t *testing.T) {
	ops := documented()
	for _, text := range []string{"a", "_", "x_1", "0", "007", "12345678901234567890123"} {
		wantTree(t, ops, text, atom(text))
		wantTree(t, table(), text, atom(text))
		wantTree(t, ops, " \t"+text+"\n ", atom(text))
		wantTree(t, table(), "("+text+")", group(atom(text)))
	}
	wantTree(t, ops, "a+1", in(atom("a"), "+", atom("1")))
	wantTree(t, ops, "1 * a_", in(atom("1"), "*", atom("a_")))
}

func TestParseLevels(t *testing.T) {
	ops := documented()
	a, b, c := atom("a"), atom("b"), atom("c")
	wantTree(t, ops, "a + b * c", in(a, "+", in(b, "*", c)))
	wantTree(t, ops, "a * b + c", in(in(a, "*", b), "+", c))
	wantTree(t, ops, "a == b + c * a", in(a, "==", in(b, "+", in(c, "*", a))))
	wantTree(t, ops, "a * b + c == a", in(in(in(a, "*", b), "+", c), "==", a))
	wantTree(t, ops, "(a + b) * c", in(group(in(a, "+", b)), "*", c))
	wantTree(t, ops, "a * (b + c)", in(a, "*", group(in(b, "+", c))))
	wantTree(t, ops, "- a + - b * - c", in(pre("-", a), "+", in(pre("-", b), "*", pre("-", c))))
	wantTree(t, ops, "~ a == b", pre("~", in(a, "==", b)))
}

func TestParseSameLevel(t *testing.T) {
	a, b, c, d := atom("a"), atom("b"), atom("c"), atom("d")
	left := table(infix("+", 6, impl.SideLeft), infix("-", 6, impl.SideLeft), postfix("!", 6))
	wantTree(t, left, "a + b - c + d", in(in(in(a, "+", b), "-", c), "+", d))
	wantTree(t, left, "a + b !", post(in(a, "+", b), "!"))
	wantTree(t, left, "a ! + b", in(post(a, "!"), "+", b))
	wantTree(t, left, "a + b ! ! - c !", post(in(post(post(in(a, "+", b), "!"), "!"), "-", c), "!"))
	right := table(infix("^", 6, impl.SideRight), infix("&", 6, impl.SideRight), prefix("-", 6))
	wantTree(t, right, "a ^ b & c ^ d", in(a, "^", in(b, "&", in(c, "^", d))))
	wantTree(t, right, "- a ^ b", pre("-", in(a, "^", b)))
	wantTree(t, right, "a ^ - b", in(a, "^", pre("-", b)))
	wantTree(t, right, "- - a ^ - b & c", pre("-", pre("-", in(a, "^", pre("-", in(b, "&", c))))))
	lone := table(infix("=", 6, impl.SideNone), infix("<", 6, impl.SideNone), infix("+", 7, impl.SideLeft))
	wantTree(t, lone, "a = b", in(a, "=", b))
	wantTree(t, lone, "a + b < c + d", in(in(a, "+", b), "<", in(c, "+", d)))
	wantRefusal(t, lone, "a = b < c", 5, 0)
	wantRefusal(t, lone, "a = b + c = d", 5, 0)
	wantTree(t, lone, "(a = b) < c", in(group(in(a, "=", b)), "<", c))
	wantTree(t, lone, "a = (b < c)", in(a, "=", group(in(b, "<", c))))
	wantRefusal(t, lone, "(a = b < c)", 5, 0)
}

// No exception is made for a prefix operator behind an infix one.
func TestParseWeakPrefix(t *testing.T) {
	ops := table(prefix("~", 5), infix("+", 6, impl.SideLeft), infix("^", 6+1, impl.SideRight), infix("&", 4, impl.SideLeft),
		prefix("-", 9), infix("<", 5, impl.SideRight))
	a, b, c := atom("a"), atom("b"), atom("c")
	for _, s := range []string{"a + ~ b", "a ^ ~ b", "- ~ a", "a + ~ b & c", "a + b ^ ~ c", "~ - ~ a", "(a + ~ b)", "a & b + ~ c"} {
		wantRefusal(t, ops, s, 5, 0)
	}
	wantTree(t, ops, "a + (~ b)", in(a, "+", group(pre("~", b))))
	wantTree(t, ops, "- (~ a)", pre("-", group(pre("~", a))))
	wantTree(t, ops, "a & ~ b", in(a, "&", pre("~", b)))
	wantTree(t, ops, "a & ~ b & c", in(in(a, "&", pre("~", b)), "&", c))
	wantTree(t, ops, "~ a + b & c", in(pre("~", in(a, "+", b)), "&", c))
	wantTree(t, ops, "a < ~ b < c", in(a, "<", pre("~", in(b, "<", c))))
	wantTree(t, ops, "~ ~ a", pre("~", pre("~", a)))
	wantTree(t, ops, "~ - a", pre("~", pre("-", a)))
}

// A hole whose least is one above the level is the edge for a prefix operator.
func TestParsePrefixAtTheLeastOfTheHole(t *testing.T) {
	a, b := atom("a"), atom("b")
	for _, side := range []int{impl.SideLeft, impl.SideRight, impl.SideNone} {
		for level := 5; level <= 7; level++ {
			ops := table(infix("*", 6, side), prefix("-", level))
			if impl.TableOk(ops) != 0 {
				continue
			}
			if _, least := wordedLeast(ops.Ops[0]); level < least {
				wantRefusal(t, ops, "a * - b", 5, 0)
			} else {
				wantTree(t, ops, "a * - b", in(a, "*", pre("-", b)))
			}
		}
	}
}

func TestParseWeakAndTightPostfix(t *testing.T) {
	ops := table(postfix("?", 2), postfix("!", 10), prefix("-", 9), prefix("~", 1), infix("+", 6, impl.SideLeft),
		infix("=", 4, impl.SideNone))
	a, b, c := atom("a"), atom("b"), atom("c")
	wantTree(t, ops, "- a ?", post(pre("-", a), "?"))
	wantTree(t, ops, "- a !", pre("-", post(a, "!")))
	wantTree(t, ops, "~ a ?", pre("~", post(a, "?")))
	wantTree(t, ops, "a + b ?", post(in(a, "+", b), "?"))
	wantTree(t, ops, "a + b !", in(a, "+", post(b, "!")))
	wantTree(t, ops, "a = b + - c ? ?", post(post(in(a, "=", in(b, "+", pre("-", c))), "?"), "?"))
	wantTree(t, ops, "a ! ?", post(post(a, "!"), "?"))
	wantTree(t, ops, "- a ! ! + b ! ?", post(in(pre("-", post(post(a, "!"), "!")), "+", post(b, "!")), "?"))
	wantTree(t, ops, "(a ?) + b", in(group(post(a, "?")), "+", b))
	wantTree(t, ops, "(a ?) !", post(group(post(a, "?")), "!"))
	for _, s := range []string{"a ? !", "a ? + b", "- a ? + b", "a + b ? + c", "a = b ? = c", "(a ? !)", "a ? = b"} {
		wantRefusal(t, ops, s, 5, 0)
	}
}

func TestParseOneTextWithTwoOperators(t *testing.T) {
	a, b, c := atom("a"), atom("b"), atom("c")
	minus := table(prefix("-", 9), infix("-", 6, impl.SideLeft))
	wantTree(t, minus, "a--b", in(a, "-", pre("-", b)))
	wantTree(t, minus, "--a---b-c", in(in(pre("-", pre("-", a)), "-", pre("-", pre("-", b))), "-", c))
	wantTree(t, minus, "-(-a)-b", in(pre("-", group(pre("-", a))), "-", b))
	weak := table(prefix("-", 5), infix("-", 6, impl.SideLeft))
	wantTree(t, weak, "- a - b", pre("-", in(a, "-", b)))
	wantRefusal(t, weak, "a - - b", 5, 0)
	bang := table(prefix("!", 9), postfix("!", 10), infix("+", 6, impl.SideLeft))
	wantTree(t, bang, "!a!", pre("!", post(a, "!")))
	wantTree(t, bang, "! ! a ! !", pre("!", pre("!", post(post(a, "!"), "!"))))
	wantTree(t, bang, "a! + !b", in(post(a, "!"), "+", pre("!", b)))
	wantTree(t, table(prefix("!", 9), postfix("!", 8)), "!a!", post(pre("!", a), "!"))
	longer := table(prefix("-", 9), infix("-", 6, impl.SideLeft), postfix("--", 10))
	wantTree(t, longer, "a-- - -b", in(post(a, "--"), "-", pre("-", b)))
	wantRefusal(t, longer, "a--b", 4, 3)
	wantRefusal(t, longer, "--a", 4, 0)
}

func TestParseBrackets(t *testing.T) {
	ops := documented()
	a, b := atom("a"), atom("b")
	wantTree(t, ops, "(a)", group(a))
	wantTree(t, ops, "((a))", group(group(a)))
	wantTree(t, ops, "((a)+(b))", group(in(group(a), "+", group(b))))
	wantTree(t, ops, "-((a+(b)!))", pre("-", group(group(in(a, "+", post(group(b), "!"))))))
	wantTree(t, ops, " ( ( a ) * ( ~ b ) ) ", group(in(group(a), "*", group(pre("~", b)))))
	wantTree(t, ops, "(~a)!+(~b)*(a==b)", in(post(group(pre("~", a)), "!"), "+",
		in(group(pre("~", b)), "*", group(in(a, "==", b)))))
}

func TestParseTableNotValid(t *testing.T) {
	for _, ops := range notValid() {
		for _, s := range []string{"", "a", "a +", "#", "a = b = c", strings.Repeat("(", impl.MaxText+1)} {
			wantRefusal(t, ops, s, 1, 0)
		}
	}
	for _, o := range illFormed() {
		wantRefusal(t, table(o), "a", 1, 0)
	}
}

func TestParsePlaceOfBadTokens(t *testing.T) {
	ops := documented()
	wantRefusal(t, ops, "#", 3, 0)
	wantRefusal(t, ops, " \t\n #", 3, 4)
	wantRefusal(t, ops, "a + b #", 3, 6)
	wantRefusal(t, ops, "a + $ # b", 3, 4)
	wantRefusal(t, ops, "a = b", 3, 2)
	wantRefusal(t, ops, "a=== b", 3, 3)
	wantRefusal(t, ops, "é", 3, 0)
	wantRefusal(t, ops, "a b + ) ~ \xff", 3, 10)
	wantRefusal(t, ops, "a * ~ b %", 3, 8)
	wantRefusal(t, table(), "a+", 3, 1)
	full := strings.Repeat("(", impl.MaxText-1)
	wantRefusal(t, ops, full+"#", 3, impl.MaxText-1)
	wantRefusal(t, ops, strings.Repeat("#", impl.MaxText), 3, 0)
	wantRefusal(t, ops, strings.Repeat(" ", impl.MaxText-1)+"#", 3, impl.MaxText-1)
}

func TestParsePlaceOfMisfits(t *testing.T) {
	ops := documented()
	wantRefusal(t, ops, "", 4, 0)
	wantRefusal(t, ops, "  ", 4, 2)
	wantRefusal(t, ops, "a  b", 4, 3)
	wantRefusal(t, ops, "a \n\t b c", 4, 5)
	wantRefusal(t, ops, "  + a", 4, 2)
	wantRefusal(t, ops, "a +", 4, 3)
	wantRefusal(t, ops, "a + \n ", 4, 6)
	wantRefusal(t, ops, "(a", 4, 2)
	wantRefusal(t, ops, " (a + (b)  ", 4, 11)
	wantRefusal(t, ops, "a )", 4, 2)
	wantRefusal(t, ops, "( )", 4, 2)
	wantRefusal(t, ops, "a  (b)", 4, 3)
	wantRefusal(t, ops, "a -b", 4, 2)
	wantRefusal(t, ops, "!a", 4, 0)
	wantRefusal(t, ops, "a + == b", 4, 4)
	wantRefusal(t, ops, "12 34", 4, 3)
	wantRefusal(t, ops, "1a", 4, 1)
	wantRefusal(t, ops, "-", 4, 1)
	wantRefusal(t, ops, strings.Repeat("(", impl.MaxText), 4, impl.MaxText)
	wantRefusal(t, ops, strings.Repeat("-", impl.MaxText), 4, impl.MaxText)
	wantRefusal(t, ops, strings.Repeat(" ", impl.MaxText), 4, impl.MaxText)
	wantRefusal(t, ops, strings.Repeat(" ", impl.MaxText-1)+")", 4, impl.MaxText-1)
}

func TestParseFirstCode(t *testing.T) {
	ops := documented()
	long := strings.Repeat("a ", impl.MaxText/2)
	wantRefusal(t, ops, long, 4, 2)
	wantRefusal(t, ops, long+" ", 2, 0)
	wantRefusal(t, ops, long+"#", 2, 0)
	wantRefusal(t, ops, long+long, 2, 0)
	wantRefusal(t, ops, strings.Repeat("a", impl.MaxText+1), 2, 0)
	wantRefusal(t, ops, strings.Repeat(" ", impl.MaxText)+"a", 2, 0)
	wantRefusal(t, ops, "a b #", 3, 4)
	wantRefusal(t, ops, ") #", 3, 2)
	wantRefusal(t, ops, "a == b == #", 3, 10)
	wantRefusal(t, ops, "a == b == c d", 4, 12)
	wantRefusal(t, ops, "a == b == ", 4, 10)
	wantRefusal(t, ops, "a * ~ b )", 4, 8)
}

func TestParseOverTheGreatestTable(t *testing.T) {
	ops := distinct(impl.MaxOps)
	var s strings.Builder
	want := atom("a")
	for _, o := range ops {
		s.WriteString(o.Text)
	}
	for _, o := range slices.Backward(ops) {
		want = pre(o.Text, want)
	}
	wantTree(t, table(ops...), s.String()+"a", want)
	slices.Reverse(ops)
	wantTree(t, table(ops...), s.String()+"a", want)
	wantRefusal(t, table(ops...), ops[0].Text+s.String()+"a", 5, 0)
}

func TestParseSharesNoMemory(t *testing.T) {
	ops, memory := roomy(documented().Ops)
	kept := slices.Clone(memory)
	s := "- (a + b!) * c"
	want := in(pre("-", group(in(atom("a"), "+", post(atom("b"), "!")))), "*", atom("c"))
	first, _, _ := impl.Parse(ops, s)
	second, _, _ := impl.Parse(ops, s)
	if !slices.Equal(memory, kept) {
		t.Errorf("the table has changed: %v", memory)
	}
	for i := range memory {
		memory[i] = impl.Op{Text: "changed"}
	}
	if !sameTree(first, want) {
		t.Errorf("after a change of the table: %s", shownTree(first))
	}
	all := first.Nodes[:cap(first.Nodes)]
	for i := range all {
		all[i] = impl.Node{Text: "changed"}
	}
	if !sameTree(second, want) {
		t.Errorf("two answers share memory: %s", shownTree(second))
	}
}
