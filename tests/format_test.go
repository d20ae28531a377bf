package tests

import (
	"slices"
	"strings"
	"testing"

	"loop.example/s0059/impl"
)

func TestFormatBracketsAndBlanks(t *testing.T) {
	ops := documented()
	for s, want := range map[string]string{
		"a":                          "a",
		" \t\n007\n":                 "007",
		"((a))":                      "a",
		"a+b*a":                      "a + b * a",
		"a  +\n\tb *  a ":            "a + b * a",
		"a+(b*a)":                    "a + b * a",
		"(a+b)*a":                    "(a + b) * a",
		"((a+b))*((a))":              "(a + b) * a",
		"(a+b)+a":                    "a + b + a",
		"a+(b+a)":                    "a + (b + a)",
		"( ( a == b ) ) == a":        "(a == b) == a",
		"--a!!":                      "- -a! !",
		"- - a ! !":                  "- -a! !",
		"-(-((a!)!))":                "- -a! !",
		"(-a)!":                      "(-a)!",
		"-(a!)":                      "-a!",
		"-a*(b+c)!":                  "-a * (b + c)!",
		"(-a)*((b+c)!)":              "-a * (b + c)!",
		"~a==b":                      "~a == b",
		"~(a==b)":                    "~a == b",
		"(~a)==b":                    "(~a) == b",
		"a*(~b)":                     "a * (~b)",
		"-(~a)":                      "-(~a)",
		"~(-(~(-a)))":                "~ -(~ -a)",
		"(((-(((a+((b)))))))*((c)))": "-(a + b) * c",
	} {
		wantFormatted(t, ops, s, want)
		wantFormatted(t, ops, "( "+s+"\n)", want)
		wantFormatted(t, ops, "(("+s+"))", want)
	}
}

func TestFormatCodesOfParse(t *testing.T) {
	for _, ops := range notValid() {
		for _, s := range []string{"", "a", "#", "a +", strings.Repeat("a", impl.MaxText+1)} {
			wantNoFormat(t, ops, s, 1, 0)
		}
	}
	for _, o := range illFormed() {
		wantNoFormat(t, table(o), "a", 1, 0)
	}
	ops := documented()
	wantNoFormat(t, ops, strings.Repeat("a", impl.MaxText+1), 2, 0)
	wantNoFormat(t, ops, strings.Repeat(" ", impl.MaxText)+"a", 2, 0)
	wantNoFormat(t, ops, "#", 3, 0)
	wantNoFormat(t, ops, "a + b %", 3, 6)
	wantNoFormat(t, ops, strings.Repeat("(", impl.MaxText-1)+"#", 3, impl.MaxText-1)
	wantNoFormat(t, ops, "", 4, 0)
	wantNoFormat(t, ops, "a  b", 4, 3)
	wantNoFormat(t, ops, " (a ", 4, 4)
	wantNoFormat(t, ops, strings.Repeat(" ", impl.MaxText), 4, impl.MaxText)
	wantNoFormat(t, ops, "a * ~ b", 5, 0)
	wantNoFormat(t, ops, "a == b == c", 5, 0)
	for _, s := range deepTexts(impl.MaxHeight + 1) {
		wantNoFormat(t, deepOps(), s, 6, 0)
	}
	for _, s := range deepTexts(impl.MaxText / 2) {
		wantNoFormat(t, deepOps(), s, 6, 0)
	}
}

func TestFormatHighTexts(t *testing.T) {
	ops := deepOps()
	const n = impl.MaxHeight - 1
	want := []string{
		"a", strings.Repeat("~ ", n-1) + "~a", "a!" + strings.Repeat(" !", n-1),
		"a" + strings.Repeat(" + a", n), "a" + strings.Repeat(" ^ a", n),
	}
	for i, s := range deepTexts(impl.MaxHeight) {
		wantFormatted(t, ops, s, want[i])
	}
	const half = n / 2
	left := strings.Repeat("(", half-1) + "a ^ a" + strings.Repeat(") ^ a", half-1)
	wantFormatted(t, ops, left, left)
	wantFormatted(t, ops, "("+strings.ReplaceAll(left, " ", "")+")", left)
	ends := strings.Repeat(")", n/3)
	wantFormatted(t, ops, strings.Repeat("-(~", n/3)+"a"+ends, strings.Repeat("-(~ ", n/3-1)+"-(~a"+ends)
	// Brackets that are not needed make a text too high all the same.
	wantNoFormat(t, ops, strings.Repeat("((", half-1)+"a^a"+strings.Repeat("))^a", half-1), 6, 0)
}

func TestFormatToMoreThanMaxText(t *testing.T) {
	s, tr := balanced(13)
	ops := table(levels(13)...)
	want := wordedPrint(ops, tr)
	if len(s) > impl.MaxText || len(want) <= impl.MaxText {
		t.Fatal(len(s), len(want))
	}
	wantFormatted(t, ops, s, want)
	wantNoFormat(t, ops, want, 2, 0)
	word := strings.Repeat("x", impl.MaxText)
	wantFormatted(t, documented(), word, word)
	wantFormatted(t, documented(), word[4:]+"+a", word[4:]+" + a")
	wantFormatted(t, documented(), word[3:]+"+a", word[3:]+" + a")
	wantFormatted(t, documented(), word[2:]+"+a", word[2:]+" + a")
	wantNoFormat(t, documented(), word[3:]+" + a", 2, 0)
	wantFormatted(t, documented(), "--"+word[2:], "- -"+word[2:])
}

// holdFormat holds Format against Parse and the document's words.
func holdFormat(t *testing.T, ops impl.Table, s string) {
	t.Helper()
	got, code, at := impl.Format(ops, s)
	tr, wantCode, place := impl.Parse(ops, s)
	want := ""
	if wantCode == 0 {
		want = wordedPrint(ops, tr)
	}
	if got != want || code != wantCode || at != place {
		t.Fatalf("%v, %q: %q %d %d, not %q %d %d", ops, s, got, code, at, want, wantCode, place)
	}
	if code != 0 {
		return
	}
	if again, code, at := impl.Format(ops, got); again != got || code != 0 || at != 0 {
		t.Fatalf("%v, %q: %q, the second time %q %d %d", ops, s, got, again, code, at)
	}
	read, _, _ := impl.Parse(ops, got)
	bare, _ := impl.Erase(read)
	if want := wordedErase(tr, len(tr.Nodes)-1); !sameTree(bare, want) {
		t.Fatalf("%v, %q: %q has another tree", ops, s, got)
	}
}

func TestFormatOfAllSmallTexts(t *testing.T) {
	for _, ops := range []impl.Table{
		table(),
		table(prefix("-", 2), infix("-", 1, impl.SideLeft), postfix("--", 3)),
		table(prefix("-", 1), infix("--", 2, impl.SideRight), postfix("-", 3)),
		table(prefix("-", 3), infix("-", 1, impl.SideNone)),
	} {
		eachList([]byte("a1-( )"), 6, func(b []byte) { holdFormat(t, ops, string(b)) })
	}
}

func TestFormatOfFittingTokens(t *testing.T) {
	for _, ops := range someTables() {
		eachFitting(ops, 5, func(list []impl.Token) { holdFormat(t, ops, spaced(list)) })
	}
	for _, ops := range smallTables() {
		eachFitting(ops, 7, func(list []impl.Token) { holdFormat(t, ops, spaced(list)) })
	}
}

func TestFormatChangesNoArgument(t *testing.T) {
	ops, memory := roomy(documented().Ops)
	kept := slices.Clone(memory)
	wantFormatted(t, ops, "((a)+b)*-(c)", "(a + b) * -c")
	wantNoFormat(t, ops, "a == b == c", 5, 0)
	if !slices.Equal(memory, kept) {
		t.Errorf("the table has changed: %v", memory)
	}
}
