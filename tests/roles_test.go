package tests

import (
	"slices"
	"testing"

	"loop.example/s0059/impl"
)

func wantRoles(t *testing.T, ops impl.Table, list []impl.Token, want []int, place int) {
	t.Helper()
	got, at := impl.Roles(ops, list)
	if at != place || !slices.Equal(got, want) {
		t.Errorf("%s: %v %d, not %v %d", shown(list), got, at, want, place)
	}
}

func wantMisfit(t *testing.T, ops impl.Table, list []impl.Token, place int) {
	t.Helper()
	wantRoles(t, ops, list, nil, place)
}

func TestRolesOfEachKind(t *testing.T) {
	ops := sharedTexts()
	a, b := name("a"), number("1")
	wantRoles(t, ops, tokens(a, end()), []int{0, 0}, -1)
	wantRoles(t, ops, tokens(b, end()), []int{0, 0}, -1)
	wantRoles(t, ops, tokens(sign("~"), a, end()), []int{1, 0, 0}, -1)
	wantRoles(t, ops, tokens(a, sign("-"), b, end()), []int{0, 2, 0, 0}, -1)
	wantRoles(t, ops, tokens(a, sign("++"), end()), []int{0, 3, 0}, -1)
	wantRoles(t, ops, tokens(opening(), a, closing(), end()), []int{0, 0, 0, 0}, -1)
	wantRoles(t, ops, tokens(sign("~"), sign("~"), opening(), a, sign("++"), closing(), sign("++"), sign("++"),
		sign("-"), b, end()), []int{1, 1, 0, 0, 3, 0, 3, 3, 2, 0, 0}, -1)
	wantRoles(t, ops, tokens(opening(), opening(), a, closing(), sign("-"), opening(), b, closing(), closing(), end()),
		[]int{0, 0, 0, 0, 2, 0, 0, 0, 0, 0}, -1)
}

func TestRolesOfATextWithTwoOperators(t *testing.T) {
	ops := sharedTexts()
	a := name("a")
	wantRoles(t, ops, tokens(sign("+"), a, sign("+"), sign("+"), a, end()), []int{1, 0, 2, 1, 0, 0}, -1)
	wantRoles(t, ops, tokens(sign("-->"), a, sign("-->"), sign("-->"), a, end()), []int{1, 0, 2, 1, 0, 0}, -1)
	wantRoles(t, ops, tokens(sign("!"), sign("!"), a, sign("!"), sign("!"), end()), []int{1, 1, 0, 3, 3, 0}, -1)
	wantRoles(t, ops, tokens(opening(), sign("!"), a, closing(), sign("!"), sign("+"), sign("!"), a, end()),
		[]int{0, 1, 0, 0, 3, 2, 1, 0, 0}, -1)
	wantMisfit(t, ops, tokens(a, sign("!"), a, end()), 2)
	wantMisfit(t, ops, tokens(a, sign("+"), end()), 2)
}

func TestRolesOfAnOperatorInTheWrongState(t *testing.T) {
	ops := sharedTexts()
	a := name("a")
	wantMisfit(t, ops, tokens(sign("-"), a, end()), 0)
	wantMisfit(t, ops, tokens(sign("++"), a, end()), 0)
	wantMisfit(t, ops, tokens(a, sign("~"), a, end()), 1)
	wantMisfit(t, ops, tokens(a, sign("-"), sign("-"), a, end()), 2)
	wantMisfit(t, ops, tokens(opening(), sign("-"), a, closing(), end()), 1)
	wantMisfit(t, ops, tokens(opening(), a, closing(), sign("~"), end()), 3)
}

func TestRolesOfBrackets(t *testing.T) {
	ops := sharedTexts()
	a := name("a")
	wantMisfit(t, ops, tokens(opening(), a, end()), 2)
	wantMisfit(t, ops, tokens(opening(), opening(), a, closing(), end()), 4)
	wantMisfit(t, ops, tokens(a, closing(), end()), 1)
	wantMisfit(t, ops, tokens(opening(), a, closing(), closing(), end()), 3)
	wantMisfit(t, ops, tokens(opening(), closing(), end()), 1)
	wantMisfit(t, ops, tokens(closing(), opening(), end()), 0)
	wantMisfit(t, ops, tokens(a, opening(), a, closing(), end()), 1)
	wantMisfit(t, ops, tokens(opening(), a, closing(), opening(), a, closing(), end()), 3)
	wantMisfit(t, ops, tokens(opening(), a, sign("-"), closing(), end()), 3)
	deep := slices.Concat(slices.Repeat(tokens(opening()), impl.MaxText), tokens(a),
		slices.Repeat(tokens(closing()), impl.MaxText))
	wantRoles(t, ops, append(slices.Clone(deep), end()), make([]int, len(deep)+1), -1)
	wantMisfit(t, ops, append(slices.Clone(deep), closing(), end()), len(deep))
	wantMisfit(t, ops, append(slices.Clone(deep[1:]), end()), len(deep)-2)
	wantMisfit(t, ops, append(slices.Clone(deep[:len(deep)-1]), end()), len(deep)-1)
}

func TestRolesOfTheEnd(t *testing.T) {
	ops := sharedTexts()
	a := name("a")
	wantMisfit(t, ops, nil, 0)
	wantMisfit(t, ops, tokens(), 0)
	wantMisfit(t, ops, tokens(end()), 0)
	wantMisfit(t, ops, tokens(end(), a, end()), 0)
	wantMisfit(t, ops, tokens(a, end(), end()), 1)
	wantMisfit(t, ops, tokens(a, end(), sign("-"), a, end()), 1)
	wantMisfit(t, ops, tokens(a, end(), a), 1)
	wantMisfit(t, ops, tokens(opening(), a, end(), closing(), end()), 2)
	wantMisfit(t, ops, tokens(a), 1)
	wantMisfit(t, ops, tokens(sign("~")), 1)
	wantMisfit(t, ops, tokens(opening(), a, closing(), sign("-")), 4)
	wantMisfit(t, ops, tokens(opening(), opening()), 2)
	wantMisfit(t, ops, tokens(sign("~"), end()), 1)
}

func TestRolesOfTokensThatNeverFit(t *testing.T) {
	ops := sharedTexts()
	a := name("a")
	strange := tokens(
		impl.Token{}, impl.Token{Kind: 1 << 40, Text: "-"}, bad("#"), bad("a"), bad("-"), bad("~"), bad(""),
		sign("*"), sign(""), sign("a"), sign("("), sign("+-"), sign("+++"), sign(" +"), sign("-->>"),
	)
	for kind := -300; kind <= 300; kind++ {
		if kind < impl.TokNumber || kind > impl.TokEnd {
			strange = append(strange, impl.Token{Kind: kind, Text: "-"}, impl.Token{Kind: kind, Text: "~"})
		}
	}
	for _, x := range strange {
		wantMisfit(t, ops, tokens(x), 0)
		wantMisfit(t, ops, tokens(x, a, end()), 0)
		wantMisfit(t, ops, tokens(a, x, end()), 1)
		wantMisfit(t, ops, tokens(a, x, a, end()), 1)
		wantMisfit(t, ops, tokens(a, sign("-"), x, a, end()), 2)
		wantMisfit(t, ops, tokens(opening(), a, closing(), x), 3)
	}
}

func TestRolesOfTheFirstMisfit(t *testing.T) {
	ops := sharedTexts()
	a := name("a")
	wantMisfit(t, ops, tokens(a, a, a, a, end()), 1)
	wantMisfit(t, ops, tokens(a, sign("~"), bad("#"), closing()), 1)
	wantMisfit(t, ops, tokens(opening(), sign("-"), bad("#"), end()), 1)
	wantMisfit(t, ops, tokens(a, sign("-"), bad("#"), bad("#"), end()), 2)
	wantMisfit(t, ops, tokens(closing(), closing(), end()), 0)
}

// Only the kind of a token counts, and the text of an operator.
func TestRolesOfOtherTextsAndGaps(t *testing.T) {
	ops := sharedTexts()
	list := tokens(
		impl.Token{Kind: impl.TokOpen, Text: "["}, impl.Token{Kind: impl.TokNumber, Text: "no number", Gap: "x"},
		behind("gap", sign("++")), impl.Token{Kind: impl.TokClose}, behind("\xff", sign("-")),
		impl.Token{Kind: impl.TokName}, impl.Token{Kind: impl.TokEnd, Gap: "gap", Text: "more"},
	)
	wantRoles(t, ops, list, []int{0, 0, 3, 0, 2, 0, 0}, -1)
}

func TestRolesTableNotValid(t *testing.T) {
	lists := [][]impl.Token{nil, tokens(name("a"), end()), tokens(name("a"), name("a"), end()), tokens(name("a"))}
	for _, ops := range notValid() {
		for _, list := range lists {
			wantMisfit(t, ops, list, 0)
		}
	}
	for _, o := range illFormed() {
		wantMisfit(t, table(o), tokens(name("a"), end()), 0)
	}
}

func TestRolesOverTheTableWithoutOperators(t *testing.T) {
	wantRoles(t, table(), tokens(name("a"), end()), []int{0, 0}, -1)
	wantMisfit(t, table(), tokens(name("a"), sign("-"), name("a"), end()), 1)
	wantMisfit(t, table(), tokens(sign("-"), name("a"), end()), 0)
}

func someOp(ops impl.Table, text string, kind int) bool {
	return slices.ContainsFunc(ops.Ops, func(o impl.Op) bool { return o.Text == text && o.Kind == kind })
}

// wordedRole tells the role of a token from the tokens in front of it and their
// roles, as the document words it; -1 for one that does not fit.
func wordedRole(ops impl.Table, list []impl.Token, roles []int) int {
	at := len(roles)
	before, opened := true, 0
	for i, role := range roles {
		switch list[i].Kind {
		case impl.TokOpen:
			opened++
		case impl.TokClose:
			opened--
		}
		before = list[i].Kind == impl.TokOpen || role == 1 || role == 2
	}
	token := list[at]
	isOp := token.Kind == impl.TokOp
	switch {
	case before && (token.Kind == impl.TokNumber || token.Kind == impl.TokName || token.Kind == impl.TokOpen):
		return 0
	case before && isOp && someOp(ops, token.Text, impl.KindPrefix):
		return 1
	case !before && isOp && someOp(ops, token.Text, impl.KindInfix):
		return 2
	case !before && isOp && someOp(ops, token.Text, impl.KindPostfix):
		return 3
	case !before && token.Kind == impl.TokClose && opened > 0:
		return 0
	case !before && token.Kind == impl.TokEnd && opened == 0 && at == len(list)-1:
		return 0
	}
	return -1
}

func wordedRoles(ops impl.Table, list []impl.Token) ([]int, int) {
	var roles []int
	for at := range list {
		role := wordedRole(ops, list, roles)
		if role < 0 {
			return nil, at
		}
		roles = append(roles, role)
	}
	if len(list) == 0 || list[len(list)-1].Kind != impl.TokEnd {
		return nil, len(list)
	}
	return roles, -1
}

func TestRolesOfAllSmallLists(t *testing.T) {
	tables := []impl.Table{
		table(prefix("-", 9), infix("-", 6, impl.SideLeft), postfix("!", 10)),
		table(prefix("!", 9), postfix("!", 10), infix("-", 6, impl.SideRight)),
	}
	pool := tokens(name("a"), sign("-"), sign("!"), sign("?"), opening(), closing(), end(), bad("-"))
	eachList(pool, 6, func(list []impl.Token) {
		for _, ops := range tables {
			got, at := impl.Roles(ops, list)
			want, place := wordedRoles(ops, list)
			if at != place || !slices.Equal(got, want) {
				t.Fatalf("%s: %v %d, not %v %d", shown(list), got, at, want, place)
			}
		}
	})
}

func TestRolesShareNoMemory(t *testing.T) {
	ops, memory := roomy(sharedTexts().Ops)
	opsKept := slices.Clone(memory)
	room := tokens(sign("~"), name("a"), sign("-"), number("1"), end(), name("b"), name("c"))
	kept := slices.Clone(room)
	first, _ := impl.Roles(ops, room[:5])
	second, _ := impl.Roles(ops, room[:5])
	all := first[:cap(first)]
	for i := range all {
		all[i] = 9
	}
	if !slices.Equal(second, []int{1, 0, 2, 0, 0}) {
		t.Errorf("two answers share memory: %v", second)
	}
	if !slices.Equal(room, kept) || !slices.Equal(memory, opsKept) {
		t.Errorf("an argument has changed: %s %#v", shown(room), memory)
	}
}
