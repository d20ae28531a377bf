package tests

import (
	"fmt"
	"slices"
	"testing"

	"loop.example/s0059/impl"
)

func number(text string) impl.Token {
	return impl.Token{Kind: impl.TokNumber, Text: text}
}

func name(text string) impl.Token {
	return impl.Token{Kind: impl.TokName, Text: text}
}

func sign(text string) impl.Token {
	return impl.Token{Kind: impl.TokOp, Text: text}
}

func opening() impl.Token {
	return impl.Token{Kind: impl.TokOpen, Text: "("}
}

func closing() impl.Token {
	return impl.Token{Kind: impl.TokClose, Text: ")"}
}

func bad(text string) impl.Token {
	return impl.Token{Kind: impl.TokBad, Text: text}
}

func end() impl.Token {
	return impl.Token{Kind: impl.TokEnd}
}

func behind(gap string, token impl.Token) impl.Token {
	token.Gap = gap
	return token
}

func tokens(list ...impl.Token) []impl.Token {
	return list
}

// notValid has a table for each code of TableOk but 0.
func notValid() []impl.Table {
	return []impl.Table{
		table(distinct(impl.MaxOps + 1)...),
		table(infix("+", 6, impl.SideLeft), prefix("a", 1)),
		table(infix("+", 6, impl.SideLeft), postfix("+", 6)),
		table(infix("+", 6, impl.SideLeft), prefix("-", 6)),
	}
}

// sharedTexts is a table in which some texts begin others and some belong to
// two operators.
func sharedTexts() impl.Table {
	return table(
		prefix("+", 9), infix("+", 6, impl.SideLeft), postfix("++", 10), infix("+++*", 1, impl.SideNone),
		infix("-", 6, impl.SideLeft), prefix("-->", 9), infix("-->", 3, impl.SideRight),
		postfix("!", 10), prefix("!", 9), prefix("~", 2), postfix("~!", 10),
	)
}

// shown leaves out the rest of a long list.
func shown(list []impl.Token) string {
	const most = 30
	if len(list) > most {
		return fmt.Sprintf("%d tokens, first %#v", len(list), list[:most])
	}
	return fmt.Sprintf("%#v", list)
}

func wantTokens(t *testing.T, ops impl.Table, s string, want []impl.Token) {
	t.Helper()
	got, ok := impl.Lex(ops, s)
	if !ok || !slices.Equal(got, want) {
		t.Errorf("%q: %s %v, not %s", s, shown(got), ok, shown(want))
	}
}
