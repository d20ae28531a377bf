package tests

import (
	"fmt"
	"slices"
	"strings"
	"testing"

	"loop.example/s0059/impl"
)

func TestLoadScopes(t *testing.T) {
	plus, minus, bang := infix("+", 6, impl.SideLeft), prefix("-", 9), postfix("!", 10)
	a, b := mod("a", "infix + 6 left;begin;1"), mod("b", "prefix - 9;use a;begin;")
	wantScopes(t, nil)
	wantScopes(t, mods())
	wantScopes(t, mods(mod("m", "begin")), table())
	wantScopes(t, mods(a), table(plus))
	wantScopes(t, mods(a, b), table(plus), table(minus, plus))
	wantScopes(t, mods(b, a), table(minus, plus), table(plus))
	c := mod("c", "use b;postfix ! 10;begin;")
	wantScopes(t, mods(c, a, b), table(bang, minus, plus), table(plus), table(minus, plus))
	wantScopes(t, mods(a, mod("d", "begin;")), table(plus), table())
}

// A module's own operators come first wherever the uses stand in its header;
// then come those of its uses, in the order of the uses.
func TestLoadOrderOfOperators(t *testing.T) {
	p, q, r, s := prefix("-", 9), infix("+", 6, impl.SideLeft), postfix("!", 10), infix("=", 4, impl.SideNone)
	a, b := mod("a", "prefix - 9;infix + 6 left;begin;"), mod("b", "postfix ! 10;begin;")
	for header, want := range map[string][]impl.Op{
		"use a;use b":                               {p, q, r},
		"use b;use a":                               {r, p, q},
		"use a;use b;infix = 4 none":                {s, p, q, r},
		"infix = 4 none;use b;use a":                {s, r, p, q},
		"use a;infix = 4 none;use b":                {s, p, q, r},
		"use a;use a;use b;use a":                   {p, q, r},
		"use b;use a;use b":                         {r, p, q},
		"use a;infix + 6 left":                      {q, p},
		"infix + 6 left;use a;use b":                {q, p, r},
		"use b;infix + 6 left;postfix ! 10;use a":   {q, r, p},
		"infix + 6 left;infix + 06 left;use a":      {q, p},
		"infix = 4 none;use b;infix + 6 left;use a": {s, q, r, p},
	} {
		wantScopes(t, mods(mod("c", header+";begin;"), a, b), table(want...), table(p, q), table(r))
		wantScopes(t, mods(a, b, mod("c", header+";begin;")), table(p, q), table(r), table(want...))
	}
}

func TestLoadOperatorsBySeveralWays(t *testing.T) {
	p, q, r, s := prefix("-", 9), infix("+", 6, impl.SideLeft), postfix("!", 10), infix("=", 4, impl.SideNone)
	root, left, right := mod("root", "prefix - 9;begin;"), mod("left", "use root;infix + 6 left;begin;"), mod("right", "postfix ! 10;use root;begin;")
	wantScopes(t, mods(root, left, right, mod("top", "use left;use right;begin;")), table(p), table(q, p), table(r, p), table(q, p, r))
	wantScopes(t, mods(mod("top", "use right;use left;begin;"), left, root, right), table(r, p, q), table(q, p), table(p), table(r, p))
	wantScopes(t, mods(mod("top", "use root;use right;use left;infix = 4 none;begin;"), root, left, right),
		table(s, p, r, q), table(p), table(q, p), table(r, p))
	// The same operator, declared by several modules.
	one, two := mod("one", "infix + 6 left;prefix - 9;begin;"), mod("two", "prefix - 09;postfix ! 10;infix + 6 left;begin;")
	wantScopes(t, mods(one, two, mod("top", "use one;use two;begin;")), table(q, p), table(p, r, q), table(q, p, r))
	wantScopes(t, mods(one, two, mod("top", "use two;use one;begin;")), table(q, p), table(p, r, q), table(p, r, q))
	wantScopes(t, mods(one, two, mod("top", "postfix ! 10;use two;use one;begin;")), table(q, p), table(p, r, q), table(r, p, q))
}

func TestLoadTooManyModules(t *testing.T) {
	var ms []impl.Module
	var want []impl.Table
	for i := range impl.MaxModules {
		ms, want = append(ms, mod(fmt.Sprintf("m%d", i), "begin")), append(want, table())
	}
	wantScopes(t, ms, want...)
	wantNoScopes(t, append(slices.Clone(ms), mod("more", "begin")), 1, impl.MaxModules)
	wantNoScopes(t, append(slices.Clone(ms), ms...), 1, impl.MaxModules)
	wantNoScopes(t, make([]impl.Module, impl.MaxModules+1), 1, impl.MaxModules)
	wantNoScopes(t, make([]impl.Module, 10*impl.MaxModules), 1, impl.MaxModules)
	wantNoScopes(t, append([]impl.Module{{Name: "1", Text: "wrong"}}, ms...), 1, impl.MaxModules)
	wantNoScopes(t, make([]impl.Module, impl.MaxModules), 2, 0)
}

func TestLoadNames(t *testing.T) {
	full := strings.Repeat("n", impl.MaxName)
	for _, name := range []string{"a", "Z", "_", "_1", "a0", "begin", "use", "A_b_9", full, full[1:], "_" + full[1:]} {
		wantScopes(t, mods(mod(name, "begin")), table())
		wantScopes(t, mods(mod("other", "use "+name+";begin"), mod(name, "prefix - 1;begin")), table(prefix("-", 1)), table(prefix("-", 1)))
	}
	for _, name := range []string{
		"", "1", "1a", "0", " a", "a ", "a b", "a-b", "+", "a.b", "a\n", "\na", "é", "aé", "a\x00", "\xff", "(", full + "n", "1" + full[1:], strings.Repeat(full, 20),
	} {
		wantNoScopes(t, mods(mod(name, "begin")), 2, 0)
		wantNoScopes(t, mods(mod("a", "begin"), mod("b", "begin"), mod(name, "begin")), 2, 2)
	}
	// Letters of another case make another name.
	wantScopes(t, mods(mod("a", "use A;begin"), mod("A", "prefix - 1;begin")), table(prefix("-", 1)), table(prefix("-", 1)))
	wantNoScopes(t, mods(mod("a", "use B;begin"), mod("b", "begin")), 4, 0)
}

func TestLoadUnreadableTexts(t *testing.T) {
	long := "begin\n" + strings.Repeat("x", impl.MaxText)
	for _, text := range []string{"", "wrong\nbegin\n", "use a", long, "begin now"} {
		wantNoScopes(t, mods(mod("a", text)), 2, 0)
		wantNoScopes(t, mods(mod("a", "begin"), mod("b", text), mod("c", text)), 2, 1)
	}
	wantNoScopes(t, mods(mod("a", "begin"), mod("b", "begin"), mod("1", "begin"), mod("c", "")), 2, 2)
	wantNoScopes(t, mods(mod("a", "begin"), mod("b", "begin"), mod("c", ""), mod("1", "begin")), 2, 2)
	wantScopes(t, mods(mod("a", long[:impl.MaxText])), table())
}

func TestLoadSameNames(t *testing.T) {
	wantNoScopes(t, mods(mod("a", "begin"), mod("a", "begin")), 3, 1)
	wantNoScopes(t, mods(mod("a", "begin"), mod("b", "begin"), mod("a", "prefix - 1;begin")), 3, 2)
	wantNoScopes(t, mods(mod("a", "begin"), mod("a", "begin"), mod("a", "begin")), 3, 1)
	wantNoScopes(t, mods(mod("a", "begin"), mod("b", "begin"), mod("b", "begin"), mod("a", "begin")), 3, 2)
	wantNoScopes(t, mods(mod("a", "begin"), mod("b", "begin"), mod("c", "begin"), mod("b", "begin"), mod("b", "begin")), 3, 3)
}

func TestLoadUnknownUses(t *testing.T) {
	wantNoScopes(t, mods(mod("a", "use b;begin")), 4, 0)
	wantNoScopes(t, mods(mod("a", "begin"), mod("b", "use a;use c;begin")), 4, 1)
	wantNoScopes(t, mods(mod("a", "begin"), mod("b", "use c;use a;begin"), mod("c", "use d;begin")), 4, 2)
	wantNoScopes(t, mods(mod("a", "use b;begin"), mod("b", "use z;begin"), mod("c", "use z;begin")), 4, 1)
	for _, word := range []string{"A", "aa", "a\t", "1", "+", "begin", "\xff", "a\r"} {
		wantNoScopes(t, mods(mod("a", "begin"), mod("b", "use "+word+";begin")), 4, 1)
	}
}

// Code 5 applies to the modules of a ring, not to those that only use one.
func TestLoadModulesThatUseThemselves(t *testing.T) {
	wantNoScopes(t, mods(mod("a", "use a;begin")), 5, 0)
	wantNoScopes(t, mods(mod("a", "begin"), mod("b", "use a;use b;begin")), 5, 1)
	wantNoScopes(t, mods(mod("a", "use b;begin"), mod("b", "use a;begin")), 5, 0)
	wantNoScopes(t, mods(mod("c", "use a;begin"), mod("a", "use b;begin"), mod("b", "use a;begin")), 5, 1)
	wantNoScopes(t, mods(mod("c", "use b;begin"), mod("a", "begin"), mod("b", "use a;use b;begin")), 5, 2)
	wantNoScopes(t, mods(mod("d", "use c;begin"), mod("c", "use e;begin"), mod("e", "begin"), mod("b", "use b;begin")), 5, 3)
	// Two rings, and a way from the one to the other.
	wantNoScopes(t, mods(mod("x", "use a;begin"), mod("a", "use b;use c;begin"), mod("b", "use a;begin"), mod("c", "use d;begin"), mod("d", "use c;begin")), 5, 1)
	wantNoScopes(t, mods(mod("x", "use a;begin"), mod("c", "use d;begin"), mod("d", "use c;use x;begin"), mod("a", "begin")), 5, 1)
	for _, n := range []int{3, 10, impl.MaxModules - 1} {
		ms := mods(mod("outside", "use m0;begin"))
		for i := range n {
			ms = append(ms, mod(fmt.Sprintf("m%d", i), fmt.Sprintf("use m%d;begin", (i+1)%n)))
		}
		wantNoScopes(t, ms, 5, 1)
		ms[n].Text = "begin"
		wantScopes(t, ms, make([]impl.Table, n+1)...)
		ms[n].Text = lines(fmt.Sprintf("use m%d;begin", n-2))
		wantNoScopes(t, ms, 5, n-1)
	}
}

func TestLoadScopesThatAreNotValid(t *testing.T) {
	for _, o := range illFormed() {
		if o.Text != "" && !strings.Contains(o.Text, " ") && o.Kind == impl.KindPrefix && o.Side == 0 && o.Level >= 0 {
			wantNoScopes(t, mods(mod("a", "begin"), declaring("b", []impl.Op{o}, "1")), 6, 1)
			wantNoScopes(t, mods(mod("c", "use b;begin"), declaring("b", []impl.Op{o}, "1")), 6, 0)
		}
	}
	wantNoScopes(t, mods(mod("a", "infix + 6 left;infix + 7 left;begin")), 6, 0)
	wantNoScopes(t, mods(mod("a", "infix + 6 left;infix * 6 right;begin")), 6, 0)
	wantNoScopes(t, mods(mod("a", "postfix x 999999;begin")), 6, 0)
	// Each module's own operators are valid.
	for _, pair := range [][2]string{
		{"infix + 6 left", "infix + 7 left"}, {"infix + 6 left", "postfix + 6"}, {"prefix - 1", "prefix - 2"}, {"infix + 6 left", "infix + 6 right"},
		{"infix + 6 left", "infix * 6 right"}, {"infix + 6 none", "postfix ! 6"}, {"prefix - 6", "postfix ! 6"},
	} {
		a, b := mod("a", pair[0]+";begin"), mod("b", pair[1]+";begin")
		if _, code, _ := impl.Load(mods(a, b)); code != 0 {
			t.Errorf("%v: %d beside each other", pair, code)
		}
		wantNoScopes(t, mods(a, b, mod("c", "use a;use b;begin")), 6, 2)
		wantNoScopes(t, mods(a, mod("b", "use a;"+b.Text)), 6, 1)
		wantNoScopes(t, mods(a, mod("d", "use c;begin"), mod("c", "use a;begin"), mod("e", "use d;"+pair[1]+";begin")), 6, 3)
		wantNoScopes(t, mods(mod("f", "use e;begin"), a, mod("e", "use a;"+pair[1]+";begin")), 6, 0)
	}
	scopes, code, _ := impl.Load(mods(mod("a", "prefix + 6;begin"), mod("b", "use a;infix + 7 left;begin")))
	if code != 0 || len(scopes) != 2 {
		t.Errorf("a prefix and an infix operator of one text: %d", code)
	}
}

func TestLoadScopesOfManyOperators(t *testing.T) {
	many := distinct(impl.MaxOps + 1)
	first, second := declaring("a", many[:300], "1"), declaring("b", many[300:impl.MaxOps], "1")
	top := mod("c", "use a;use b;begin;1")
	wantScopes(t, mods(first, second, top), table(many[:300]...), table(many[300:impl.MaxOps]...), table(many[:impl.MaxOps]...))
	wantScopes(t, mods(first, mod("b", "use a;"+second.Text)), table(many[:300]...), table(slices.Concat(many[300:impl.MaxOps], many[:300])...))
	more := declaring("d", many[impl.MaxOps:], "1")
	wantNoScopes(t, mods(first, second, more, mod("c", "use a;use b;use d;begin;1")), 6, 3)
	wantNoScopes(t, mods(mod("e", "use c;begin;1"), first, second, more, mod("c", "use d;use a;use b;begin;1")), 6, 0)
	wantNoScopes(t, mods(first, second, mod("c", "use a;use b;"+more.Text)), 6, 2)
	wantNoScopes(t, mods(declaring("a", many, "1")), 6, 0)
	wantScopes(t, mods(declaring("a", many[1:], "1")), table(many[1:]...))
	// Operators that stand twice count once.
	wantScopes(t, mods(declaring("a", slices.Concat(many[1:], many[1:300]), "1")), table(many[1:]...))
	over := declaring("b", many[100:impl.MaxOps], "1")
	wantScopes(t, mods(first, over, top), table(many[:300]...), table(many[100:impl.MaxOps]...), table(many[:impl.MaxOps]...))
}

// Each program has every later fault too, and in front of the first one.
func TestLoadFirstCode(t *testing.T) {
	invalid, ring, unknown := mod("i", "prefix x 1;begin"), mod("r", "use r;begin"), mod("u", "use z;begin")
	wantNoScopes(t, mods(invalid, mod("m", "begin")), 6, 0)
	wantNoScopes(t, mods(invalid, ring), 5, 1)
	wantNoScopes(t, mods(invalid, ring, unknown), 4, 2)
	wantNoScopes(t, mods(invalid, ring, unknown, invalid), 3, 3)
	wantNoScopes(t, mods(invalid, ring, unknown, invalid, mod("2", "begin")), 2, 4)
	wantNoScopes(t, mods(invalid, ring, unknown, invalid, mod("n", "wrong")), 2, 4)
	wantNoScopes(t, append(mods(invalid, ring, unknown, invalid), make([]impl.Module, impl.MaxModules)...), 1, impl.MaxModules)
	wantNoScopes(t, mods(mod("a", "use a;use z;prefix x 1;begin"), mod("a", "begin")), 3, 1)
	wantNoScopes(t, mods(mod("a", "use a;use z;prefix x 1;begin"), mod("b", "begin")), 4, 0)
	wantNoScopes(t, mods(mod("a", "use a;prefix x 1;begin"), mod("b", "begin")), 5, 0)
}

func TestLoadOrderOfModules(t *testing.T) {
	for _, ms := range [][]impl.Module{
		mods(mod("a", "infix + 6 left;begin"), mod("b", "use a;prefix - 9;begin"), mod("c", "use b;use a;begin"), mod("d", "postfix ! 7;use c;begin"), mod("e", "use d;use a;begin")),
		mods(mod("a", "use b;begin"), mod("b", "use c;prefix - 9;begin"), mod("c", "prefix - 8;begin"), mod("d", "begin")),
		mods(mod("a", "use b;begin"), mod("b", "use c;begin"), mod("c", "use b;begin"), mod("d", "use a;begin")),
		mods(mod("a", "begin"), mod("b", "use x;begin"), mod("c", "use a;begin")),
		mods(mod("a", "begin"), mod("a", "use c;begin"), mod("c", "begin")),
		mods(mod("a", "begin"), mod("b", "wrong;begin"), mod("c", "begin")),
	} {
		want, wantCode, _ := impl.Load(ms)
		reordered(ms, func(other []impl.Module) {
			got, code, _ := impl.Load(other)
			if (code == 0) != (wantCode == 0) {
				t.Fatalf("%s: %d, not %d", shownProgram(other), code, wantCode)
			}
			for i := range got {
				if at := slices.Index(ms, other[i]); !slices.Equal(got[i].Ops, want[at].Ops) {
					t.Fatalf("%s: %v, not %v", shownProgram(other), got[i], want[at])
				}
			}
		})
	}
}

// holdLoad holds Load and Trees against the document's words.
func holdLoad(t *testing.T, ms []impl.Module, codes []int) {
	scopes, code, witness := impl.Load(ms)
	want, wantCode, wantWitness := wordedLoad(ms)
	if code != wantCode || witness != wantWitness || !sameScopes(scopes, want) {
		t.Fatalf("%s: %v %d %d, not %v %d %d", shownProgram(ms), scopes, code, witness, want, wantCode, wantWitness)
	}
	trees, code, witness := impl.Trees(ms)
	bodies, wantCode, wantWitness := wordedTrees(ms)
	if code != wantCode || witness != wantWitness || !sameTrees(trees, bodies) {
		t.Fatalf("%s: %d trees %d %d, not %d %d", shownProgram(ms), len(trees), code, witness, wantCode, wantWitness)
	}
	codes[code]++
}

func TestLoadOfAllSmallPrograms(t *testing.T) {
	codes := make([]int, 17)
	var pool []impl.Module
	for _, name := range []string{"a", "b", "c"} {
		for _, text := range []string{
			"begin;1", "use a;begin;+1", "use b;begin;1+2", "use b;use a;begin;1*2+3", "use c;prefix + 2;begin;+1+2", "infix + 2 right;begin;1+2+3",
			"prefix + 3;use a;infix * 1 left;begin;1*+2", "infix + 3 left;use c;begin;1+2",
		} {
			pool = append(pool, mod(name, text))
		}
	}
	pool = append(pool, mod("d", "use a;use b;use c;begin;1+2"), mod("1", "begin;1"), mod("a", "wrong"))
	eachList(pool, 3, func(ms []impl.Module) { holdLoad(t, ms, codes) })
	for code, n := range codes {
		if n == 0 != slices.Contains([]int{1, 7, 8, 9, 10, 11, 12, 15, 16}, code) {
			t.Errorf("code %d came up %d times", code, n)
		}
	}
}

// dense has modules of which each uses all that stand behind it, over and over
// as often as there is room, and declares the operators that it is given.
func dense(n int, ops func(i int) []impl.Op) []impl.Module {
	var ms []impl.Module
	for i := range n {
		m := declaring(fmt.Sprintf("m%d", i), ops(i), "1")
		var uses strings.Builder
		for i+1 < n && len(uses.String())+len(m.Text) < impl.MaxText-8*n {
			for used := i + 1; used < n; used++ {
				fmt.Fprintf(&uses, "use m%d\n", used)
			}
		}
		ms = append(ms, impl.Module{Name: m.Name, Text: uses.String() + m.Text})
	}
	return ms
}

func TestLoadOfManyUses(t *testing.T) {
	same := distinct(impl.MaxOps)
	ms := dense(impl.MaxModules, func(int) []impl.Op { return same })
	wantScopes(t, ms, slices.Repeat([]impl.Table{table(same...)}, impl.MaxModules)...)
	ms = dense(impl.MaxModules, func(i int) []impl.Op { return same[i*5 : i*5+5] })
	var want []impl.Table
	for i := range ms {
		want = append(want, table(same[i*5:]...))
	}
	wantScopes(t, ms, want...)
	wantNoScopes(t, dense(impl.MaxModules, func(i int) []impl.Op {
		var ops []impl.Op
		for at := range 900 {
			ops = append(ops, prefix(fmt.Sprintf("x%d_%d", i, at), 1))
		}
		return ops
	}), 6, 0)
	wantNoScopes(t, dense(impl.MaxModules, func(i int) []impl.Op {
		if i == impl.MaxModules-1 {
			return []impl.Op{prefix("x", 1)}
		}
		return nil
	}), 6, 0)
}

// Each module is reached by more ways than can be gone one by one.
func TestLoadOfManyWays(t *testing.T) {
	var ms []impl.Module
	for i := range impl.MaxModules {
		ms = append(ms, mod(fmt.Sprintf("m%d", i), fmt.Sprintf("use m%d;use m%d;begin;1", i+1, i+2)))
	}
	ms[impl.MaxModules-2].Text = lines("use m99;begin;1")
	ms[impl.MaxModules-1].Text = lines("prefix - 1;begin;1")
	wantScopes(t, ms, slices.Repeat([]impl.Table{table(prefix("-", 1))}, impl.MaxModules)...)
	ms[impl.MaxModules-1].Text = lines("use m0;begin;1")
	wantNoScopes(t, ms, 5, 0)
	all := ""
	for i := range impl.MaxModules {
		all += fmt.Sprintf("use m%d;", i)
	}
	for i := range ms {
		ms[i].Text = lines(all + "begin;1")
	}
	wantNoScopes(t, ms, 5, 0)
}

func TestLoadGivesNewMemory(t *testing.T) {
	ms := mods(mod("a", "infix + 6 left;prefix - 9;begin;1"), mod("b", "use a;begin;2"), mod("c", "use b;begin;3"), mod("d", "use b;postfix ! 7;begin;3"))
	kept := slices.Clone(ms)
	want, _, _ := wordedLoad(ms)
	for changed := range ms {
		got, _, _ := impl.Load(ms)
		memory := got[changed].Ops[:cap(got[changed].Ops)]
		for i := range memory {
			memory[i] = impl.Op{Text: "changed"}
		}
		for i := range got {
			if i != changed && !slices.Equal(got[i].Ops, want[i].Ops) {
				t.Errorf("the scopes %d and %d share memory", i, changed)
			}
		}
	}
	if !slices.Equal(ms, kept) {
		t.Errorf("the argument has changed: %s", shownProgram(ms))
	}
	wantScopes(t, ms, want...)
}
