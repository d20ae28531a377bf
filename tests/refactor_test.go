package tests

import (
	"slices"
	"strings"
	"testing"

	"loop.example/s0059/impl"
)

var (
	left6 = infix("+", 6, impl.SideLeft)
	left7 = infix("*", 7, impl.SideLeft)
	minus = prefix("-", 9)
	bang  = postfix("!", 10)
)

func TestRefactorExample(t *testing.T) {
	wantRefactored(t, mods(mod("m", "infix + 6 left;infix * 7 left;begin;a + b * c")), newLevel("m", left6, 8, impl.SideLeft),
		mod("m", "infix + 8 left;infix * 7 left;begin;a + (b * c)"))
}

func TestRefactorOneModule(t *testing.T) {
	m := mod("m", "infix + 6 left;infix * 7 left;prefix - 9;postfix ! 10;begin;-a! + (b + c) * d")
	full := strings.Repeat("*", impl.MaxSigns)
	for _, line := range []struct {
		q         impl.Request
		old, line string
		body      string
	}{
		{newText("m", left6, "<>"), "infix + 6 left", "infix <> 6 left", "-a! <> (b <> c) * d"},
		{newText("m", left7, full), "infix * 7 left", "infix " + full + " 7 left", "-a! + (b + c) " + full + " d"},
		{newText("m", minus, "+"), "prefix - 9", "prefix + 9", "+a! + (b + c) * d"},
		{newText("m", bang, "--"), "postfix ! 10", "postfix -- 10", "-a-- + (b + c) * d"},
		{newLevel("m", left6, 7, impl.SideLeft), "infix + 6 left", "infix + 7 left", "-a! + (b + c * d)"},
		{newLevel("m", left6, 8, impl.SideNone), "infix + 6 left", "infix + 8 none", "-a! + (b + c * d)"},
		{newLevel("m", left6, 6, impl.SideRight), "infix + 6 left", "infix + 6 right", "-a! + (b + c) * d"},
		{newLevel("m", left6, impl.MaxLevel, impl.SideRight), "infix + 6 left", "infix + 1000 right", "(-a!) + (b + c * d)"},
		{newLevel("m", left7, 1, impl.SideRight), "infix * 7 left", "infix * 1 right", "-a! + (b + c * d)"},
		{newLevel("m", minus, 1, 0), "prefix - 9", "prefix - 1", "(-a!) + (b + c) * d"},
		{newLevel("m", minus, 11, 0), "prefix - 9", "prefix - 11", "-(a!) + (b + c) * d"},
		{newLevel("m", bang, 8, 0), "postfix ! 10", "postfix ! 8", "-(a!) + (b + c) * d"},
	} {
		header, _, _ := strings.Cut(m.Text, "-a!")
		want := strings.Replace(header, line.old+"\n", line.line+"\n", 1) + line.body
		wantRefactored(t, mods(m), line.q, impl.Module{Name: "m", Text: want})
	}
}

func TestRefactorWithoutModules(t *testing.T) {
	wantRefused(t, nil, newText("m", left6, "*"), 3)
	wantRefused(t, nil, impl.Request{}, 2)
}

// a declares the operator, b and c use it, d does not, and e has one of its own
// that is nearly the same.
func fiveModules() []impl.Module {
	return mods(
		mod("b", "use a;begin; 1+(2) "),
		mod("a", " infix  +  06 left;;begin;(1+2)+3"),
		mod("c", "use b;prefix - 9;begin;1+(-2+3)"),
		mod("d", "begin; ( 1 )"),
		mod("e", "infix + 7 left;use d;begin;((1)+2)+3"),
	)
}

func TestRefactorTouchesUsersAndNoOther(t *testing.T) {
	ms := fiveModules()
	wantRefactored(t, ms, newText("a", left6, "-"),
		mod("b", "use a;begin;1 - 2"), mod("a", "infix - 6 left;;begin;1 - 2 - 3"), mod("c", "use b;prefix - 9;begin;1 - (-2 - 3)"), ms[3], ms[4])
	wantRefactored(t, ms, newLevel("a", left6, 6, impl.SideRight),
		mod("b", "use a;begin;1 + 2"), mod("a", "infix + 6 right;;begin;(1 + 2) + 3"), mod("c", "use b;prefix - 9;begin;1 + -2 + 3"), ms[3], ms[4])
	wantRefactored(t, ms, newLevel("a", left6, 10, impl.SideLeft),
		mod("b", "use a;begin;1 + 2"), mod("a", "infix + 10 left;;begin;1 + 2 + 3"), mod("c", "use b;prefix - 9;begin;1 + ((-2) + 3)"), ms[3], ms[4])
	wantRefactored(t, ms, newText("c", minus, "--"), ms[0], ms[1], mod("c", "use b;prefix -- 9;begin;1 + (--2 + 3)"), ms[3], ms[4])
	wantRefactored(t, ms, newText("e", infix("+", 7, impl.SideLeft), "."), ms[0], ms[1], ms[2], ms[3], mod("e", "infix . 7 left;use d;begin;1 . 2 . 3"))
}

// The bodies are the same, and so is the text of the operator.
func TestRefactorLeavesTheLikeAlone(t *testing.T) {
	own, other := mod("own", "infix + 6 left;begin;1+(2+3)"), mod("other", "infix + 6 right;begin;1+(2+3)")
	user, stranger := mod("user", "use own;begin;(1)+2"), mod("stranger", "use other;begin;(1)+2")
	ms := mods(stranger, own, other, user)
	wantRefactored(t, ms, newText("own", left6, "*"), stranger, mod("own", "infix * 6 left;begin;1 * (2 * 3)"), other, mod("user", "use own;begin;1 * 2"))
	wantRefactored(t, ms, newText("other", infix("+", 6, impl.SideRight), "*"),
		mod("stranger", "use other;begin;1 * 2"), own, mod("other", "infix * 6 right;begin;1 * 2 * 3"), user)
	// A whole text that is the same has the same uses, so both are touched.
	twin := mod("twin", "use own;begin;(1)+2")
	wantRefactored(t, mods(user, own, twin), newText("own", left6, "*"),
		mod("user", "use own;begin;1 * 2"), mod("own", "infix * 6 left;begin;1 * (2 * 3)"), mod("twin", "use own;begin;1 * 2"))
}

func TestRefactorUnusedOperator(t *testing.T) {
	m := mod("m", "infix + 6 left;prefix - 9;begin; ( ( - a ) ) ")
	wantRefactored(t, mods(m), newText("m", left6, "*"), mod("m", "infix * 6 left;prefix - 9;begin;-a"))
	wantRefactored(t, mods(m), newLevel("m", left6, 60, impl.SideNone), mod("m", "infix + 60 none;prefix - 9;begin;-a"))
	alone := mod("m", "postfix ! 10;begin;;1")
	wantRefactored(t, mods(alone), newText("m", bang, "?"), mod("m", "postfix ? 10;begin;1"))
}

func TestRefactorKeepsTheBytesOfHeaders(t *testing.T) {
	for _, line := range []struct{ header, want string }{
		{"infix + 6 left;begin", "infix ++ 6 left;begin"},
		{"  infix   +   6   left  ;begin", "infix ++ 6 left;begin"},
		{"infix + 000006 left; begin ", "infix ++ 6 left; begin "},
		{";; ;infix + 06 left;  ;;   begin", ";; ;infix ++ 6 left;  ;;   begin"},
		{" prefix  -  009 ;infix + 6 left;  postfix ! 0010  ;begin  ", " prefix  -  009 ;infix ++ 6 left;  postfix ! 0010  ;begin  "},
		{"prefix + 07;infix + 6 left;prefix - 9;begin", "prefix + 07;infix ++ 6 left;prefix - 9;begin"},
		{"infix * 6 left; infix + 6 left;infix +* 6 left;begin", "infix * 6 left;infix ++ 6 left;infix +* 6 left;begin"},
		{" use  n ;infix + 6 left; use n;use  n;begin", " use  n ;infix ++ 6 left; use n;use  n;begin"},
		{"prefix + 8; infix + 006 left ;prefix + 8;prefix + 08;begin", "prefix + 8;infix ++ 6 left;prefix + 8;prefix + 08;begin"},
	} {
		ms := mods(mod("n", " infix  %  05  none ; begin ;( 1 )"), mod("m", line.header+";( 1+ 2)"), mod("u", "  use   m ;; begin  ; 1+( 2) ;"))
		wantRefactored(t, ms, newText("m", left6, "++"), ms[0], mod("m", line.want+";1 ++ 2"), mod("u", "  use   m ;; begin  ;1 ++ 2"))
	}
	m := mod("m", "prefix - 0100; infix + 6 left;postfix ! 10 ;begin;-1+2")
	wantRefactored(t, mods(m), newLevel("m", prefix("-", 100), 20, 0), mod("m", "prefix - 20; infix + 6 left;postfix ! 10 ;begin;-1 + 2"))
	wantRefactored(t, mods(m), newLevel("m", bang, 9, 0), mod("m", "prefix - 0100; infix + 6 left;postfix ! 9;begin;-1 + 2"))
	wantRefactored(t, mods(m), newText("m", bang, "?"), mod("m", "prefix - 0100; infix + 6 left;postfix ? 10;begin;-1 + 2"))
}

// Lines of the body that look like the declaration, or like a begin line, are
// no part of the header.
func TestRefactorBodiesLikeHeaders(t *testing.T) {
	m := mod("m", "infix + 6 left;begin;infix + 6")
	wantNoTrees(t, mods(mod("m", "infix + 6 left;begin;infix + 6 left")), 14, 0)
	wantRefactored(t, mods(m), newText("m", left6, "*"), mod("m", "infix * 6 left;begin;infix * 6"))
	m = mod("m", "infix + 6 left;begin;begin;+;begin")
	wantRefactored(t, mods(m), newText("m", left6, "*"), mod("m", "infix * 6 left;begin;begin * begin"))
}

func TestRefactorBrackets(t *testing.T) {
	ms := mods(
		mod("m", "infix + 6 left;begin;(((a)+((b)))+c)"),
		mod("u", "use m;infix * 7 left;begin;((a*b))+ (c)"),
		mod("o", "infix + 6 right;begin;(((a)+((b)))+c)"),
	)
	wantRefactored(t, ms, newText("m", left6, "-"), mod("m", "infix - 6 left;begin;a - b - c"), mod("u", "use m;infix * 7 left;begin;a * b - c"), ms[2])
	wantRefactored(t, ms, newLevel("m", left6, 8, impl.SideNone),
		mod("m", "infix + 8 none;begin;(a + b) + c"), mod("u", "use m;infix * 7 left;begin;(a * b) + c"), ms[2])
}

// One text stands for two operators, of which one is changed.
func TestRefactorOneTextWithTwoOperators(t *testing.T) {
	m := mod("m", "infix - 6 left;prefix - 9;begin;-a - -b - (-c - -d)")
	both := []impl.Op{infix("-", 6, impl.SideLeft), prefix("-", 9)}
	wantRefactored(t, mods(m), newText("m", both[0], "+"), mod("m", "infix + 6 left;prefix - 9;begin;-a + -b + (-c + -d)"))
	wantRefactored(t, mods(m), newText("m", both[1], "+"), mod("m", "infix - 6 left;prefix + 9;begin;+a - +b - (+c - +d)"))
	wantRefactored(t, mods(m), newText("m", both[0], "--"), mod("m", "infix -- 6 left;prefix - 9;begin;-a -- -b -- (-c -- -d)"))
	wantRefactored(t, mods(m), newText("m", both[1], "--"), mod("m", "infix - 6 left;prefix -- 9;begin;--a - --b - (--c - --d)"))
	wantRefactored(t, mods(m), newLevel("m", both[0], 9, impl.SideRight), mod("m", "infix - 9 right;prefix - 9;begin;((-a) - -b) - (-c) - -d"))
	wantRefactored(t, mods(m), newLevel("m", both[1], 5, 0), mod("m", "infix - 6 left;prefix - 5;begin;(-a) - (-b) - ((-c) - (-d))"))
	p := mod("p", "postfix ! 5;prefix ! 3;infix + 4 left;begin;!a! + b!")
	wantRefactored(t, mods(p), newText("p", postfix("!", 5), "?"), mod("p", "postfix ? 5;prefix ! 3;infix + 4 left;begin;!a? + b?"))
	wantRefactored(t, mods(p), newText("p", prefix("!", 3), "+"), mod("p", "postfix ! 5;prefix + 3;infix + 4 left;begin;+a! + b!"))
	wantRefactored(t, mods(p), newLevel("p", postfix("!", 5), 2, 0), mod("p", "postfix ! 2;prefix ! 3;infix + 4 left;begin;!(a!) + (b!)"))
	// An operator comes to share its text with another one.
	q := mod("q", "infix + 6 left;prefix - 9;begin;-a + - -b")
	wantRefactored(t, mods(q), newText("q", left6, "-"), mod("q", "infix - 6 left;prefix - 9;begin;-a - - -b"))
	wantRefactored(t, mods(q), newText("q", minus, "+"), mod("q", "infix + 6 left;prefix + 9;begin;+a + + +b"))
}

// Texts that begin other texts, or that two operators side by side would make.
func TestRefactorTextsThatBeginOthers(t *testing.T) {
	m := mod("m", "infix + 6 left;prefix - 9;postfix ! 10;begin;a!+-b!!")
	wantRefactored(t, mods(m), newText("m", left6, "!"+"-"), mod("m", "infix !- 6 left;prefix - 9;postfix ! 10;begin;a! !- -b! !"))
	wantRefactored(t, mods(m), newText("m", minus, "+-"), mod("m", "infix + 6 left;prefix +- 9;postfix ! 10;begin;a! + +-b! !"))
	wantRefactored(t, mods(m), newText("m", bang, "++"), mod("m", "infix + 6 left;prefix - 9;postfix ++ 10;begin;a++ + -b++ ++"))
	wantRefactored(t, mods(m), newText("m", bang, "-"), mod("m", "infix + 6 left;prefix - 9;postfix - 10;begin;a- + -b- -"))
}

func TestRefactorChangesNoArgument(t *testing.T) {
	memory := append(fiveModules(), mod("kept", "begin"), mod("too", "begin"))
	ms, kept := memory[:5], slices.Clone(memory)
	for _, q := range []impl.Request{
		newText("a", left6, "-"), newLevel("a", left6, 1, impl.SideNone), newText("c", minus, "--"), newText("a", left6, "a"), newText("b", left6, "-"), {},
	} {
		got, _ := impl.Refactor(ms, q)
		all := got[:cap(got)]
		for i := range all {
			all[i] = impl.Module{Name: "changed"}
		}
		if !slices.Equal(memory, kept) {
			t.Fatalf("%+v: the argument has changed: %s", q, shownProgram(memory))
		}
	}
}
