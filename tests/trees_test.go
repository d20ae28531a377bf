package tests

import (
	"slices"
	"strings"
	"testing"

	"loop.example/s0059/impl"
)

func TestTreesOfBodies(t *testing.T) {
	wantTrees(t, nil)
	wantTrees(t, mods())
	one, a := atom("1"), atom("a")
	wantTrees(t, mods(mod("m", "begin;1")), one)
	wantTrees(t, mods(mod("m", "begin;;;(a) ;")), group(a))
	plus := mod("p", "infix + 6 left;begin;1+a+1")
	wantTrees(t, mods(plus), in(in(one, "+", a), "+", one))
	wantTrees(t, mods(mod("m", "use p;prefix - 9;begin; -1 +;(a)"), plus), in(pre("-", one), "+", group(a)), in(in(one, "+", a), "+", one))
	// The words of headers are names in a body.
	wantTrees(t, mods(mod("m", "infix + 1 right;begin;begin + use;")), in(atom("begin"), "+", atom("use")))
}

// A body is read with the operators of modules that are used through others,
// and with no operator of a module that only stands beside it.
func TestTreesWithOperatorsFromAfar(t *testing.T) {
	one, two := atom("1"), atom("2")
	far := mod("far", "infix + 6 left;prefix - 9;begin;1")
	middle, near := mod("middle", "use far;begin;-1"), mod("near", "use middle;begin;1 + -2")
	wantTrees(t, mods(near, middle, far), in(one, "+", pre("-", two)), pre("-", one), one)
	wantTrees(t, mods(far, near, middle), one, in(one, "+", pre("-", two)), pre("-", one))
	wantNoTrees(t, mods(far, mod("alone", "begin;1 + 2")), 13, 1)
	wantNoTrees(t, mods(mod("far", "begin;-1"), mod("top", "use far;prefix - 9;begin;-1")), 13, 0)
	// The same text is read in two ways over two scopes.
	wantTrees(t, mods(mod("l", "infix + 1 left;begin;1+2+1"), mod("r", "infix + 1 right;begin;1+2+1")),
		in(in(one, "+", two), "+", one), in(one, "+", in(two, "+", one)))
}

func TestTreesCodesOfParse(t *testing.T) {
	ops := "infix + 6 left;prefix - 9;prefix ~ 1;infix = 4 none;begin;"
	for body, code := range map[string]int{
		"#": 13, "1 + %": 13, "1 * 2": 13, "\r": 13,
		"": 14, "   ": 14, "1 +": 14, "1 2": 14, "(1": 14, "begin;1": 14,
		"1 + ~ 2": 15, "1 = 2 = 3": 15,
		strings.Repeat("(", impl.MaxHeight) + "1" + strings.Repeat(")", impl.MaxHeight): 16,
		"1" + strings.Repeat("+1", impl.MaxHeight):                                      16,
	} {
		wantNoTrees(t, mods(mod("a", ops+body)), code, 0)
		wantNoTrees(t, mods(mod("b", ops+"1"), mod("a", "use b;begin;"+body), mod("c", ops+"#")), code, 1)
		wantNoTrees(t, mods(mod("b", ops+"1 +"), mod("a", "use b;begin;"+body)), 14, 0)
	}
	wantNoTrees(t, mods(mod("a", "begin")), 14, 0)
	wantNoTrees(t, mods(mod("a", "begin;1"), mod("b", "begin;"), mod("c", "begin;#")), 14, 1)
	// The first body comes first, whatever its code is.
	wantNoTrees(t, mods(mod("a", ops+"1 = 2 = 3"), mod("b", "begin;#")), 15, 0)
	wantNoTrees(t, mods(mod("a", "begin;1"), mod("b", "begin;#"), mod("c", ops+"1 = 2 = 3")), 13, 1)
}

func TestTreesCodesOfLoadComeFirst(t *testing.T) {
	wrong := mod("w", "begin;#")
	wantNoTrees(t, append(mods(wrong), make([]impl.Module, impl.MaxModules)...), 1, impl.MaxModules)
	wantNoTrees(t, mods(wrong, mod("a", "")), 2, 1)
	wantNoTrees(t, mods(wrong, mod("w", "begin;1")), 3, 1)
	wantNoTrees(t, mods(wrong, mod("a", "use b;begin;1")), 4, 1)
	wantNoTrees(t, mods(wrong, mod("a", "use a;begin;1")), 5, 1)
	wantNoTrees(t, mods(wrong, mod("a", "prefix a 1;begin;1")), 6, 1)
	wantNoTrees(t, mods(wrong, mod("a", "begin;1")), 13, 0)
}

func TestTreesAtTheLimits(t *testing.T) {
	word := strings.Repeat("x", impl.MaxText-len("begin\n"))
	wantTrees(t, mods(mod("a", "begin;"+word)), atom(word))
	wantNoTrees(t, mods(mod("a", "begin;"+word+"x")), 2, 0)
	high := strings.Repeat("(", impl.MaxHeight-1) + "a" + strings.Repeat(")", impl.MaxHeight-1)
	wantTrees(t, mods(mod("a", "begin;"+high)), chain(impl.MaxHeight, node(impl.NodeGroup, "", 0, 0)))
	deepest := strings.Repeat("-", impl.MaxText-len("prefix - 1\nbegin\n1")) + "1"
	wantNoTrees(t, mods(mod("a", "prefix - 1;begin;"+deepest)), 16, 0)
}

func TestTreesGivesNewMemory(t *testing.T) {
	ms := mods(mod("a", "infix + 6 left;begin;1+2"), mod("b", "use a;begin;1+2"), mod("c", "use a;begin;1+2"))
	kept := slices.Clone(ms)
	sum := in(atom("1"), "+", atom("2"))
	for changed := range ms {
		got, _, _ := impl.Trees(ms)
		memory := got[changed].Nodes[:cap(got[changed].Nodes)]
		for i := range memory {
			memory[i] = impl.Node{Text: "changed"}
		}
		for i := range got {
			if i != changed && !sameTree(got[i], sum) {
				t.Errorf("the trees %d and %d share memory", i, changed)
			}
		}
	}
	if !slices.Equal(ms, kept) {
		t.Errorf("the argument has changed: %s", shownProgram(ms))
	}
	wantTrees(t, ms, sum, sum, sum)
}
