package tests

import (
	"fmt"
	"slices"
	"strings"
	"testing"

	"loop.example/s0059/impl"
)

// Where the program is wrong, no request is looked at.
func TestRefactorOfWrongPrograms(t *testing.T) {
	good := newText("a", left6, "*")
	a := mod("a", "infix + 6 left;begin;1+2")
	wantRefactored(t, mods(a), good, mod("a", "infix * 6 left;begin;1 * 2"))
	for _, ms := range [][]impl.Module{
		slices.Repeat(mods(a), impl.MaxModules+1),
		mods(a, mod("1", "begin;1")),
		mods(a, mod("b", "wrong")),
		mods(a, mod("b", "use a")),
		mods(a, mod("b", "begin;1"), a),
		mods(a, mod("b", "use c;begin;1")),
		mods(a, mod("b", "use b;begin;1")),
		mods(a, mod("b", "use a;infix + 7 left;begin;1")),
		mods(a, mod("b", "begin;")),
		mods(a, mod("b", "begin")),
		mods(a, mod("b", "begin;1+2")),
		mods(a, mod("b", "use a;begin;1+")),
		mods(a, mod("b", "use a;prefix ~ 1;begin;1+~2")),
		mods(a, mod("b", "use a;begin;1"+strings.Repeat("+1", impl.MaxHeight))),
	} {
		for _, q := range []impl.Request{good, {}, newText("x", impl.Op{}, ""), newLevel("a", left6, 0, 9), newText("a", left6, "+")} {
			wantRefused(t, ms, q, 1)
		}
	}
}

func TestRefactorRequestsOfNoForm(t *testing.T) {
	ms := fiveModules()
	text, level := newText("a", left6, "*"), newLevel("a", left6, 8, impl.SideRight)
	for _, good := range []impl.Request{text, level} {
		if _, code := impl.Refactor(ms, good); code != 0 {
			t.Errorf("%+v: %d", good, code)
		}
		for _, kind := range []int{0, 3, -1, 4, -2, 100} {
			q := good
			q.Kind = kind
			wantRefused(t, ms, q, 2)
			wantRefused(t, ms, impl.Request{Kind: kind, Module: "a", Op: left6}, 2)
		}
	}
	for _, n := range []int{1, 6, 8, -1, 1000, 1001, 2, 3, 4} {
		q := text
		q.Level = n
		wantRefused(t, ms, q, 2)
		q = text
		q.Side = n
		wantRefused(t, ms, q, 2)
	}
	for _, s := range []string{"+", "*", "a", " ", "\x00", strings.Repeat("+", impl.MaxText+1)} {
		q := level
		q.Text = s
		wantRefused(t, ms, q, 2)
	}
	// What is wrong with the request comes before what is wrong with Op.
	wantRefused(t, ms, impl.Request{}, 2)
	wantRefused(t, ms, impl.Request{Kind: impl.ChangeText, Module: "z", Level: 1}, 2)
	wantRefused(t, ms, impl.Request{Kind: impl.ChangeLevel, Module: "z", Text: "+"}, 2)
	wantRefused(t, ms, impl.Request{Kind: 3, Module: "z", Text: "a"}, 2)
}

func TestRefactorOperatorsThatAreNotDeclaredOnce(t *testing.T) {
	ms := fiveModules()
	wantRefused(t, ms, newText("a", prefix("?", 1), "*"), 3)
	wantRefused(t, ms, newText("a", impl.Op{}, "*"), 3)
	wantRefused(t, ms, newLevel("a", impl.Op{}, 0, 0), 3)
	for _, module := range []string{"b", "c", "d", "e", "z", "", "A", "a ", " a", "aa"} {
		wantRefused(t, ms, newText(module, left6, "*"), 3)
		wantRefused(t, ms, newLevel(module, left6, 8, impl.SideLeft), 3)
	}
	text, kind, level, side := left6, left6, left6, left6
	text.Text, kind.Kind, level.Level, side.Side = "++", impl.KindPrefix, 5, impl.SideNone
	for _, o := range []impl.Op{text, kind, level, side} {
		wantRefused(t, ms, newText("a", o, "*"), 3)
		wantRefused(t, ms, newLevel("a", o, 8, impl.SideLeft), 3)
	}
	for _, o := range []impl.Op{{Text: "-", Kind: impl.KindPrefix, Level: 9, Side: 1}, prefix("-", 10), prefix("--", 9), postfix("-", 9)} {
		wantRefused(t, ms, newText("c", o, "*"), 3)
	}
	// By two modules, one of which uses the other or not, and twice by one.
	for _, other := range []string{"infix + 6 left;begin;1", "infix + 006 left;use a;begin;1+2", "  infix  +  6  left  ;begin;1"} {
		two := append(slices.Clone(ms), mod("f", other))
		wantRefused(t, two, newText("a", left6, "*"), 3)
		wantRefused(t, two, newText("f", left6, "*"), 3)
		wantRefused(t, two, newText("z", left6, "*"), 3)
	}
	for _, header := range []string{"infix + 6 left;infix + 6 left", "infix + 6 left;;prefix - 9;infix + 06 left"} {
		wantRefused(t, mods(mod("a", header+";begin;1+2")), newText("a", left6, "*"), 3)
		wantRefused(t, mods(mod("a", header+";begin;1+2")), newLevel("a", left6, 8, impl.SideLeft), 3)
	}
	// What is wrong with Op comes before what is wrong with the new operator.
	wantRefused(t, ms, newText("b", left6, "a"), 3)
	wantRefused(t, ms, newText("b", left6, "+"), 3)
	wantRefused(t, ms, newLevel("z", left6, 0, 0), 3)
}

func TestRefactorNewOperatorsThatAreIllFormed(t *testing.T) {
	ms := append(fiveModules(), mod("f", "postfix ! 10;begin;1"))
	for _, text := range []string{"", "a", "1", "(", "+a", " ", "+ ", " +", "*\n", "_", "#", "\x00", "÷", strings.Repeat("+", impl.MaxSigns+1), strings.Repeat("*", impl.MaxText)} {
		wantRefused(t, ms, newText("a", left6, text), 4)
		wantRefused(t, ms, newText("c", minus, text), 4)
		wantRefused(t, ms, newText("f", bang, text), 4)
	}
	for _, level := range []int{0, -1, impl.MaxLevel + 1, 999999, -1 << 40} {
		wantRefused(t, ms, newLevel("a", left6, level, impl.SideLeft), 4)
		wantRefused(t, ms, newLevel("c", minus, level, 0), 4)
		wantRefused(t, ms, newLevel("f", bang, level, 0), 4)
	}
	for _, side := range []int{0, -1, 4, 1000} {
		wantRefused(t, ms, newLevel("a", left6, 8, side), 4)
		wantRefused(t, ms, newLevel("a", left6, 6, side), 4)
	}
	for _, side := range []int{-1, impl.SideLeft, impl.SideRight, impl.SideNone, 4} {
		wantRefused(t, ms, newLevel("c", minus, 8, side), 4)
		wantRefused(t, ms, newLevel("f", bang, 8, side), 4)
	}
}

func TestRefactorNewOperatorsThatAreThere(t *testing.T) {
	ms := append(fiveModules(), mod("f", "postfix ! 10;begin;1"))
	wantRefused(t, ms, newText("a", left6, "+"), 4)
	wantRefused(t, ms, newLevel("a", left6, 6, impl.SideLeft), 4)
	wantRefused(t, ms, newText("c", minus, "-"), 4)
	wantRefused(t, ms, newLevel("c", minus, 9, 0), 4)
	wantRefused(t, ms, newLevel("f", bang, 10, 0), 4)
	one := mod("one", "infix + 6 left;infix * 6 left;begin;1+2*3")
	wantRefused(t, mods(one), newText("one", left6, "*"), 4)
	// Another module declares it, for a module that uses both.
	a, b, far := mod("a", "infix + 6 left;begin;1+2"), mod("b", "infix * 6 left;begin;1*2"), mod("far", "use b;begin;1*2")
	top := mod("top", "use a;use far;begin;1+2")
	wantRefused(t, mods(a, b, far, top), newText("a", left6, "*"), 4)
	wantRefused(t, mods(top, far, b, a), newText("b", infix("*", 6, impl.SideLeft), "+"), 4)
	wantRefused(t, mods(a, mod("b", "infix + 7 left;begin;1"), mod("far", "use b;begin;1+2")), newLevel("b", infix("+", 7, impl.SideLeft), 7, impl.SideLeft), 4)
	// Only modules that are not touched have it.
	wantRefactored(t, mods(a, b, far), newText("a", left6, "*"), mod("a", "infix * 6 left;begin;1 * 2"), b, far)
	back := mods(mod("a", "infix * 6 left;begin;1 * 2"), b, far)
	wantRefused(t, back, newText("a", infix("*", 6, impl.SideLeft), "+"), 3)
	c := mod("c", "infix + 7 left;begin;1+2")
	wantRefactored(t, mods(a, c), newLevel("a", left6, 7, impl.SideLeft), mod("a", "infix + 7 left;begin;1 + 2"), c)
	// It is in the scope of one touched module, and another's scope would not
	// be valid.
	wantRefused(t, mods(a, b, mod("x", "use a;prefix * 5;infix * 7 left;begin;1"), mod("y", "use a;use b;begin;1")), newText("a", left6, "*"), 4)
}

func TestRefactorNewScopesThatAreNotValid(t *testing.T) {
	own := "infix + 6 left;prefix - 9;postfix ! 10;"
	for _, line := range []struct {
		other string
		q     impl.Request
	}{
		{"infix * 7 right", newText("a", left6, "*")},
		{"infix * 6 left", newText("a", bang, "*")},
		{"postfix * 7", newText("a", left6, "*")},
		{"postfix * 7", newText("a", bang, "*")},
		{"prefix * 7", newText("a", minus, "*")},
		{"infix * 7 right", newLevel("a", left6, 7, impl.SideLeft)},
		{"infix * 7 right", newLevel("a", left6, 7, impl.SideNone)},
		{"infix * 7 none", newLevel("a", left6, 7, impl.SideRight)},
		{"postfix * 7", newLevel("a", left6, 7, impl.SideRight)},
		{"prefix * 7", newLevel("a", left6, 7, impl.SideLeft)},
		{"infix * 6 left", newLevel("a", left6, 6, impl.SideRight)},
		{"infix * 7 left", newLevel("a", minus, 7, 0)},
		{"infix * 7 none", newLevel("a", minus, 7, 0)},
		{"postfix * 7", newLevel("a", minus, 7, 0)},
		{"infix * 7 right", newLevel("a", bang, 7, 0)},
		{"prefix * 7", newLevel("a", bang, 7, 0)},
	} {
		wantRefused(t, mods(mod("a", own+line.other+";begin;1")), line.q, 5)
		a, other := mod("a", own+"begin;1"), mod("o", line.other+";begin;1")
		if _, code := impl.Refactor(mods(a, other), line.q); code != 0 {
			t.Errorf("%+v: %d where no one sees both", line.q, code)
		}
		// Only a module that is touched through others sees both.
		wantRefused(t, mods(mod("top", "use b;use o;begin;1"), a, other, mod("b", "use a;begin;1")), line.q, 5)
	}
	wantRefused(t, mods(mod("a", own+"begin;1")), newText("a", left6, "!"), 5)
	wantRefused(t, mods(mod("a", own+"begin;1")), newText("a", bang, "+"), 5)
	wantRefused(t, mods(mod("a", own+"begin;1")), newLevel("a", left6, 9, impl.SideLeft), 5)
	wantRefused(t, mods(mod("a", own+"begin;1")), newLevel("a", left6, 10, impl.SideRight), 5)
}

// A change adds no operator, so that MaxOps of them are not too many.
func TestRefactorFullScopes(t *testing.T) {
	ops := distinct(impl.MaxOps)
	for _, at := range []int{0, 250, impl.MaxOps - 1} {
		want := slices.Clone(ops)
		want[at].Text = "<"
		wantRefactored(t, mods(declaring("a", ops, ops[at].Text+" 1")), newText("a", ops[at], "<"), declaring("a", want, "<1"))
	}
}

// The W of each text stands for a name, with which the new text of the module
// m has MaxText bytes; then one more, so that it has too many.
func TestRefactorLimitOfTexts(t *testing.T) {
	wide := func(text string, n int) impl.Module {
		return mod("m", strings.Replace(text, "W", strings.Repeat("w", n), 1))
	}
	own := func(q impl.Request) impl.Request { q.Module = "m"; return q }
	a, aText, aLevel := mod("a", "infix + 6 left;begin;1"), mod("a", "infix *** 6 left;begin;1"), mod("a", "infix + 80 left;begin;1")
	text, level := newText("a", left6, "***"), newLevel("a", left6, 80, impl.SideLeft)
	for _, line := range []struct {
		old, now string
		q        impl.Request
		beside   []impl.Module
		after    []impl.Module
	}{
		{"infix + 6 left;begin;W", "infix *** 6 left;begin;W", own(text), nil, nil},
		{"infix + 6 left;begin;W", "infix + 80 left;begin;W", own(level), nil, nil},
		{"infix + 6 left;begin;W + 1 + 2", "infix *** 6 left;begin;W *** 1 *** 2", own(text), nil, nil},
		{"infix + 6 left;begin;W+1", "infix * 6 left;begin;W * 1", newText("m", left6, "*"), nil, nil},
		{"use a;begin;1 + W", "use a;begin;1 *** W", text, mods(a), mods(aText)},
		{"use a;infix * 7 left;begin;W + 2 * 3", "use a;infix * 7 left;begin;W + (2 * 3)", level, mods(a), mods(aLevel)},
		{"use u;begin;W+2", "use u;begin;W + 2", level, mods(a, mod("u", "use a;begin;1")), mods(aLevel, mod("u", "use a;begin;1"))},
	} {
		n := impl.MaxText - len(line.now) + len("W")
		before, after := wide(line.old, n), wide(line.now, n)
		wantRefactored(t, append(mods(before), line.beside...), line.q, append(mods(after), line.after...)...)
		wantRefactored(t, append(line.beside, before), line.q, append(line.after, after)...)
		wantRefused(t, append(mods(wide(line.old, n+1)), line.beside...), line.q, 6)
		wantRefused(t, append(line.beside, wide(line.old, n+1)), line.q, 6)
	}
}

// What goes from the old text makes room; and a module that is not touched may
// be full.
func TestRefactorRoomInFullTexts(t *testing.T) {
	old := lines("infix   +  006 left;begin;( W  + 1)")
	word := strings.Repeat("w", impl.MaxText-len(old)+1)
	full := impl.Module{Name: "m", Text: strings.Replace(old, "W", word, 1)}
	wantRefactored(t, mods(full), newText("m", left6, "*****"), mod("m", "infix ***** 6 left;begin;"+word+" ***** 1"))
	other := impl.Module{Name: "o", Text: "begin\n" + strings.Repeat("w", impl.MaxText-len("begin\n"))}
	wantRefactored(t, mods(other, mod("m", "infix + 6 left;begin;1+2")), newText("m", left6, "***"), other, mod("m", "infix *** 6 left;begin;1 *** 2"))
}

func TestRefactorLimitOfHeights(t *testing.T) {
	right := infix("^", 8, impl.SideRight)
	tower := func(n int) string { return "a" + strings.Repeat(" ^ a", n) }
	bracketed := func(n int) string {
		return strings.Repeat("a ^ (", n-1) + "a ^ a" + strings.Repeat(")", n-1)
	}
	m := func(body string) impl.Module { return mod("m", "prefix ~ 1;infix ^ 8 right;begin;"+body) }
	half := impl.MaxHeight / 2
	// n operators, n-1 groups between them, and a leaf.
	wantRefactored(t, mods(m(tower(half))), newLevel("m", right, 8, impl.SideLeft), mod("m", "prefix ~ 1;infix ^ 8 left;begin;"+bracketed(half)))
	wantRefused(t, mods(m(tower(half+1))), newLevel("m", right, 8, impl.SideLeft), 6)
	wantRefused(t, mods(m("~"+tower(half))), newLevel("m", right, 8, impl.SideLeft), 6)
	wantRefactored(t, mods(m("~"+tower(half-1))), newLevel("m", right, 8, impl.SideNone), mod("m", "prefix ~ 1;infix ^ 8 none;begin;~"+bracketed(half-1)))
	highest := tower(impl.MaxHeight - 1)
	wantRefactored(t, mods(m(highest)), newText("m", right, "^^"), mod("m", "prefix ~ 1;infix ^^ 8 right;begin;"+strings.ReplaceAll(highest, "^", "^^")))
	wantRefused(t, mods(m(highest)), newLevel("m", right, 8, impl.SideLeft), 6)
	// Groups that go make room.
	left := mod("m", "infix ^ 8 left;begin;"+bracketed(half))
	wantRefactored(t, mods(left), newLevel("m", infix("^", 8, impl.SideLeft), 8, impl.SideRight), mod("m", "infix ^ 8 right;begin;"+tower(half)))
	needless := strings.Repeat("(", impl.MaxHeight-3) + "~a" + strings.Repeat(")", impl.MaxHeight-3)
	wantRefactored(t, mods(m(needless)), newText("m", prefix("~", 1), "-"), mod("m", "prefix - 1;infix ^ 8 right;begin;-a"))
	// The module that is too high is another one.
	user := mod("user", "use m;begin;"+tower(half+1))
	wantRefused(t, mods(user, m("a")), newLevel("m", right, 8, impl.SideLeft), 6)
	wantRefused(t, mods(m("a"), user), newLevel("m", right, 8, impl.SideLeft), 6)
}

// So many groups come in that no tree has room for them.
func TestRefactorLimitOfNodes(t *testing.T) {
	body, tr := balanced(13)
	ops := levels(13)
	weakest := ops[0]
	weakest.Level, weakest.Side = 1, impl.SideLeft
	now := slices.Clone(ops)
	now[0] = weakest
	if _, ok := impl.Print(table(now...), tr); ok {
		t.Fatal("the tree has room for its groups")
	}
	m := declaring("m", ops, body)
	if _, code, _ := impl.Trees(mods(m)); code != 0 {
		t.Fatal(code)
	}
	wantRefused(t, mods(m), newLevel("m", ops[0], 1, impl.SideLeft), 6)
	wantRefused(t, mods(mod("o", "begin;1"), m), newLevel("m", ops[0], 1, impl.SideLeft), 6)
}

// Each request has every later fault that can be had with it.
func TestRefactorFirstCode(t *testing.T) {
	long := strings.Repeat("x", impl.MaxText-40)
	ms := mods(mod("a", "infix + 6 left;infix ++ 6 left;begin;"+long), mod("b", "use a;infix * 5 left;postfix ** 7;begin;"+long))
	wantRefused(t, ms, newText("a", left6, strings.Repeat("*", 10)), 6)
	wantRefused(t, ms, newText("a", left6, "**"), 5)
	wantRefused(t, ms, newText("a", left6, "++"), 4)
	wantRefused(t, ms, newText("a", left6, "a"), 4)
	wantRefused(t, ms, newText("b", left6, "++"), 3)
	wantRefused(t, ms, impl.Request{Kind: impl.ChangeText, Module: "b", Op: left6, Text: "++", Side: 1}, 2)
	wantRefused(t, append(ms, mod("c", "")), impl.Request{Kind: impl.ChangeText, Module: "b", Op: left6, Text: "++", Side: 1}, 1)
}

func TestRefactorOfManyModules(t *testing.T) {
	var ms, want []impl.Module
	for i := range impl.MaxModules - 1 {
		name, next := fmt.Sprintf("m%d", i), fmt.Sprintf("use m%d;use m%d;begin;", i+1, min(i+2, impl.MaxModules-1))
		ms, want = append(ms, mod(name, next+"(1)+2")), append(want, mod(name, next+"1 ++ 2"))
	}
	ms, want = append(ms, mod("m99", "infix + 6 left;begin;1")), append(want, mod("m99", "infix ++ 6 left;begin;1"))
	wantRefactored(t, ms, newText("m99", left6, "++"), want...)
}
