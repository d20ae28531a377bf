package tests

import (
	"regexp"
	"slices"
	"strings"
	"testing"

	"loop.example/s0059/impl"
)

func TestLexTableNotValid(t *testing.T) {
	for i, ops := range notValid() {
		for _, s := range []string{"", "a", "a + b", strings.Repeat("a", impl.MaxText+1)} {
			if got, ok := impl.Lex(ops, s); ok || len(got) != 0 {
				t.Errorf("table %d, a text of %d bytes: %s %v", i, len(s), shown(got), ok)
			}
		}
	}
	for _, o := range illFormed() {
		if got, ok := impl.Lex(table(o), "a"); ok || len(got) != 0 {
			t.Errorf("%#v: %s %v", o, shown(got), ok)
		}
	}
}

func TestLexLengthOfText(t *testing.T) {
	wantTokens(t, table(), "", tokens(end()))
	wantTokens(t, sharedTexts(), "", tokens(end()))
	for _, piece := range []string{"a", "1", " ", "(", "+", "\xff", "a ", "++", "-->"} {
		full := strings.Repeat(piece, impl.MaxText)[:impl.MaxText]
		for _, s := range []string{full, full[1:]} {
			wantTokens(t, sharedTexts(), s, wordedLex(sharedTexts(), s))
		}
		for _, s := range []string{full + " ", full + "a", full + full} {
			if got, ok := impl.Lex(sharedTexts(), s); ok || len(got) != 0 {
				t.Errorf("%d bytes of %q: %d tokens, %v", len(s), piece, len(got), ok)
			}
		}
	}
}

func TestLexLongestStretches(t *testing.T) {
	word := strings.Repeat("x", impl.MaxText)
	wantTokens(t, table(), word, tokens(name(word), end()))
	digits := strings.Repeat("7", impl.MaxText)
	wantTokens(t, table(), digits, tokens(number(digits), end()))
	blanks := strings.Repeat(" \t\n", impl.MaxText)[:impl.MaxText]
	wantTokens(t, table(), blanks, tokens(behind(blanks, end())))
	wantTokens(t, table(), blanks[1:]+"x", tokens(behind(blanks[1:], name("x")), end()))
}

func TestLexBlanks(t *testing.T) {
	wantTokens(t, table(), " ", tokens(behind(" ", end())))
	wantTokens(t, table(), "\n\t  \n", tokens(behind("\n\t  \n", end())))
	wantTokens(t, table(), " a\t\t1\n", tokens(behind(" ", name("a")), behind("\t\t", number("1")), behind("\n", end())))
	wantTokens(t, table(), "a b", tokens(name("a"), behind(" ", name("b")), end()))
	wantTokens(t, table(), "1\n2", tokens(number("1"), behind("\n", number("2")), end()))
	wantTokens(t, sharedTexts(), "\t( \n++ ) ", tokens(
		behind("\t", opening()), behind(" \n", sign("++")), behind(" ", closing()), behind(" ", end())))
	wantTokens(t, sharedTexts(), "+ +", tokens(sign("+"), behind(" ", sign("+")), end()))
	wantTokens(t, sharedTexts(), " # ", tokens(behind(" ", bad("#")), behind(" ", end())))
}

// Bytes near the blanks, in a text editor often taken for blanks too.
func TestLexBytesThatAreNoBlanks(t *testing.T) {
	for c := range 32 {
		if c == '\t' || c == '\n' {
			continue
		}
		b := string([]byte{byte(c)})
		wantTokens(t, table(), b, tokens(bad(b), end()))
		wantTokens(t, table(), " "+b+" a", tokens(behind(" ", bad(b)), behind(" ", name("a")), end()))
		wantTokens(t, table(), "a"+b+"\n", tokens(name("a"), bad(b), behind("\n", end())))
	}
	wantTokens(t, table(), "\u00a0", tokens(bad("\xc2"), bad("\xa0"), end()))
}

func TestLexNumbersAndNames(t *testing.T) {
	wantTokens(t, table(), "12ab", tokens(number("12"), name("ab"), end()))
	wantTokens(t, table(), "ab12", tokens(name("ab12"), end()))
	wantTokens(t, table(), "_", tokens(name("_"), end()))
	wantTokens(t, table(), "a_1", tokens(name("a_1"), end()))
	wantTokens(t, table(), "1_a", tokens(number("1"), name("_a"), end()))
	wantTokens(t, table(), "007", tokens(number("007"), end()))
	wantTokens(t, table(), "__9", tokens(name("__9"), end()))
	wantTokens(t, table(), "AZaz09", tokens(name("AZaz09"), end()))
	wantTokens(t, table(), "0x1F", tokens(number("0"), name("x1F"), end()))
	wantTokens(t, table(), "1.5", tokens(number("1"), bad("."), number("5"), end()))
	wantTokens(t, table(), "é1", tokens(bad("\xc3"), bad("\xa9"), number("1"), end()))
	wantTokens(t, table(), "aéb", tokens(name("a"), bad("\xc3"), bad("\xa9"), name("b"), end()))
}

func TestLexBrackets(t *testing.T) {
	wantTokens(t, table(), "()", tokens(opening(), closing(), end()))
	wantTokens(t, table(), "((a)1)", tokens(opening(), opening(), name("a"), closing(), number("1"), closing(), end()))
	wantTokens(t, table(), ")(", tokens(closing(), opening(), end()))
	wantTokens(t, table(), "[a]{}", tokens(bad("["), name("a"), bad("]"), bad("{"), bad("}"), end()))
	wantTokens(t, sharedTexts(), "+(+)+", tokens(sign("+"), opening(), sign("+"), closing(), sign("+"), end()))
}

func TestLexLongestOperator(t *testing.T) {
	ops := sharedTexts()
	wantTokens(t, ops, "+", tokens(sign("+"), end()))
	wantTokens(t, ops, "++", tokens(sign("++"), end()))
	wantTokens(t, ops, "+++", tokens(sign("++"), sign("+"), end()))
	wantTokens(t, ops, "+++*", tokens(sign("+++*"), end()))
	wantTokens(t, ops, "++++*", tokens(sign("++"), sign("++"), bad("*"), end()))
	wantTokens(t, ops, "++ +*", tokens(sign("++"), behind(" ", sign("+")), bad("*"), end()))
	wantTokens(t, ops, "--", tokens(sign("-"), sign("-"), end()))
	wantTokens(t, ops, "-->", tokens(sign("-->"), end()))
	wantTokens(t, ops, "--->", tokens(sign("-"), sign("-->"), end()))
	wantTokens(t, ops, "-->>", tokens(sign("-->"), bad(">"), end()))
	wantTokens(t, ops, "~!", tokens(sign("~!"), end()))
	wantTokens(t, ops, "~~!!", tokens(sign("~"), sign("~!"), sign("!"), end()))
	wantTokens(t, ops, "a+b", tokens(name("a"), sign("+"), name("b"), end()))
}

// The longest text wins in whatever order the operators stand and whatever
// their kinds are.
func TestLexLongestOfAnyKind(t *testing.T) {
	kinds := []func(string, int) impl.Op{
		prefix,
		postfix,
		func(text string, level int) impl.Op { return infix(text, level, impl.SideNone) },
	}
	for _, short := range kinds {
		for _, long := range kinds {
			ops := []impl.Op{short("*", 1), long("**", 2), short("***=", 3)}
			for range ops {
				ops = append(ops[1:], ops[0])
				wantTokens(t, table(ops...), "***", tokens(sign("**"), sign("*"), end()))
				wantTokens(t, table(ops...), "****=", tokens(sign("**"), sign("**"), bad("="), end()))
				wantTokens(t, table(ops...), "***=", tokens(sign("***="), end()))
			}
		}
	}
}

func TestLexOperatorOfMaxSigns(t *testing.T) {
	full := strings.Repeat("<", impl.MaxSigns)
	ops := table(prefix(full, 1), prefix("<", 2))
	wantTokens(t, ops, full, tokens(sign(full), end()))
	wantTokens(t, ops, full+full, tokens(sign(full), sign(full), end()))
	wantTokens(t, ops, full+"<", tokens(sign(full), sign("<"), end()))
	wantTokens(t, ops, full[:2], tokens(sign("<"), sign("<"), end()))
	wantTokens(t, table(prefix(full, 1)), full[:2]+" "+full, tokens(bad("<"), bad("<"), behind(" ", sign(full)), end()))
}

func TestLexOverTheGreatestTable(t *testing.T) {
	ops := distinct(impl.MaxOps)
	var s strings.Builder
	var want []impl.Token
	for _, o := range ops {
		s.WriteString(o.Text)
		want = append(want, sign(o.Text))
	}
	wantTokens(t, table(ops...), s.String(), append(want, end()))
}

func TestLexSignsThatBeginNoOperator(t *testing.T) {
	for i := range len(allSigns) {
		c := allSigns[i : i+1]
		wantTokens(t, table(), c, tokens(bad(c), end()))
		wantTokens(t, table(prefix(c, 1)), c, tokens(sign(c), end()))
		wantTokens(t, table(prefix("&&"+c, 1)), "&"+c, tokens(bad("&"), bad(c), end()))
		wantTokens(t, table(postfix(c+"?", 1)), "x"+c, tokens(name("x"), bad(c), end()))
	}
	wantTokens(t, table(prefix("=>", 1)), "==>=", tokens(bad("="), sign("=>"), bad("="), end()))
}

func TestLexEachByteAlone(t *testing.T) {
	for c := range 256 {
		b := string([]byte{byte(c)})
		for _, s := range []string{b, b + b, "a" + b, "1" + b, "+" + b, b + "a", b + "1", b + "+", " " + b + " "} {
			wantTokens(t, sharedTexts(), s, wordedLex(sharedTexts(), s))
			wantTokens(t, table(), s, wordedLex(table(), s))
		}
	}
	wantTokens(t, sharedTexts(), "\x7f\x80\xff", tokens(bad("\x7f"), bad("\x80"), bad("\xff"), end()))
}

// wordedLex says Lex as the document words it, by patterns and by trying each
// operator of the table.
func wordedLex(ops impl.Table, s string) []impl.Token {
	var out []impl.Token
	for {
		gap := blankForm.FindString(s)
		s = s[len(gap):]
		if s == "" {
			return append(out, behind(gap, end()))
		}
		token := wordedToken(ops, s)
		out = append(out, behind(gap, token))
		s = s[len(token.Text):]
	}
}

var (
	blankForm  = regexp.MustCompile(`^[ \t\n]*`)
	numberForm = regexp.MustCompile(`^[0-9]+`)
	nameForm   = regexp.MustCompile(`^[A-Za-z_][A-Za-z0-9_]*`)
)

func wordedToken(ops impl.Table, s string) impl.Token {
	longest := ""
	for _, o := range ops.Ops {
		if strings.HasPrefix(s, o.Text) && len(o.Text) > len(longest) {
			longest = o.Text
		}
	}
	switch {
	case numberForm.MatchString(s):
		return number(numberForm.FindString(s))
	case nameForm.MatchString(s):
		return name(nameForm.FindString(s))
	case s[0] == '(':
		return opening()
	case s[0] == ')':
		return closing()
	case longest != "":
		return sign(longest)
	}
	return bad(s[:1])
}

func TestLexAllSmallTexts(t *testing.T) {
	tables := []impl.Table{table(), sharedTexts(), table(prefix("+-", 1)), table(prefix("+", 1), postfix("+-+", 2))}
	eachList([]byte("a_1+- (\xe9"), 5, func(b []byte) {
		s := string(b)
		for _, ops := range tables {
			got, ok := impl.Lex(ops, s)
			if want := wordedLex(ops, s); !ok || !slices.Equal(got, want) {
				t.Fatalf("%q: %s %v, not %s", s, shown(got), ok, shown(want))
			}
			if back := impl.Render(got); back != s {
				t.Fatalf("%q: rendered as %q", s, back)
			}
		}
	})
}

func TestLexSharesNoMemory(t *testing.T) {
	ops, memory := roomy(sharedTexts().Ops)
	kept := slices.Clone(memory)
	s := " a ++ (1) -->#\n"
	first, _ := impl.Lex(ops, s)
	second, _ := impl.Lex(ops, s)
	for i := range memory {
		if memory[i] != kept[i] {
			t.Errorf("operator %d has changed", i)
		}
		memory[i] = impl.Op{Text: "changed"}
	}
	if want := wordedLex(sharedTexts(), s); !slices.Equal(first, want) {
		t.Errorf("after a change of the table: %s, not %s", shown(first), shown(want))
	}
	all := first[:cap(first)]
	for i := range all {
		all[i] = impl.Token{Text: "changed"}
	}
	if want := wordedLex(sharedTexts(), s); !slices.Equal(second, want) {
		t.Errorf("two answers share memory: %s", shown(second))
	}
}
