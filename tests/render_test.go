package tests

import (
	"slices"
	"strings"
	"testing"

	"loop.example/s0059/impl"
)

func wantText(t *testing.T, list []impl.Token, want string) {
	t.Helper()
	if got := impl.Render(list); got != want {
		t.Errorf("%s: %q, not %q", shown(list), got, want)
	}
}

func TestRenderOfNoToken(t *testing.T) {
	wantText(t, nil, "")
	wantText(t, tokens(), "")
}

func TestRenderOfTokensThatLexMade(t *testing.T) {
	texts := []string{
		"", " ", "a", " a", "a ", "\n\t a+++b\t\n12_x(%--- --> ", "\x00\xff\xc3\x28", "((", "1 2\n3",
		strings.Repeat("a+ (\xff", impl.MaxText)[:impl.MaxText],
	}
	for _, s := range texts {
		for _, ops := range []impl.Table{table(), sharedTexts(), table(distinct(impl.MaxOps)...)} {
			list, ok := impl.Lex(ops, s)
			if !ok {
				t.Errorf("%q is not cut", s)
			}
			wantText(t, list, s)
		}
	}
}

func TestRenderOfTokensThatLexNeverMakes(t *testing.T) {
	wantText(t, tokens(impl.Token{}), "")
	wantText(t, tokens(impl.Token{Kind: -7, Gap: "gap", Text: "text"}), "gaptext")
	wantText(t, tokens(impl.Token{Kind: impl.TokEnd, Gap: "<", Text: ">"}, name("a")), "<>a")
	wantText(t, tokens(end(), end(), name("a b"), number("")), "a b")
	wantText(t, tokens(name("a"), name("b"), sign("not"), closing()), "abnot)")
	wantText(t, tokens(behind("\xff", bad("\x80")), behind("\x00", opening())), "\xff\x80\x00(")
	long := strings.Repeat("x", 3*impl.MaxText)
	wantText(t, tokens(behind(long, name(long)), name(long)), long+long+long)
	many := slices.Repeat(tokens(behind(" ", name("a"))), 2*impl.MaxText)
	wantText(t, many, strings.Repeat(" a", 2*impl.MaxText))
}

func TestRenderChangesNothing(t *testing.T) {
	list := tokens(behind(" ", name("a")), behind("\t", sign("+")), end())
	kept := slices.Clone(list)
	wantText(t, list, " a\t+")
	if !slices.Equal(list, kept) {
		t.Errorf("%s, not %s", shown(list), shown(kept))
	}
}
