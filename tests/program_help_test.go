package tests

import (
	"fmt"
	"slices"
	"strings"
	"testing"

	"loop.example/s0059/impl"
)

// lines has a byte 10 for each semicolon.
func lines(text string) string {
	return strings.ReplaceAll(text, ";", "\n")
}

func mod(name string, text string) impl.Module {
	return impl.Module{Name: name, Text: lines(text)}
}

func mods(list ...impl.Module) []impl.Module {
	return list
}

func newText(module string, o impl.Op, text string) impl.Request {
	return impl.Request{Kind: impl.ChangeText, Module: module, Op: o, Text: text}
}

func newLevel(module string, o impl.Op, level int, side int) impl.Request {
	return impl.Request{Kind: impl.ChangeLevel, Module: module, Op: o, Level: level, Side: side}
}

// declaring is a module whose header is these declarations.
func declaring(name string, ops []impl.Op, body string) impl.Module {
	var header strings.Builder
	for _, o := range ops {
		header.WriteString(wordedLine(o) + "\n")
	}
	return impl.Module{Name: name, Text: header.String() + "begin\n" + body}
}

// reordered hands over the modules in each order.
func reordered(ms []impl.Module, do func([]impl.Module)) {
	var grow func(list []impl.Module)
	grow = func(list []impl.Module) {
		if len(list) == len(ms) {
			do(slices.Clone(list))
			return
		}
		for _, m := range ms {
			if !slices.Contains(list, m) {
				grow(append(slices.Clone(list), m))
			}
		}
	}
	grow(nil)
}

func sameUnit(a impl.Unit, b impl.Unit) bool {
	return slices.Equal(a.Uses, b.Uses) && slices.Equal(a.Ops, b.Ops) && a.Body == b.Body
}

func sameScopes(a []impl.Table, b []impl.Table) bool {
	return slices.EqualFunc(a, b, func(a, b impl.Table) bool { return slices.Equal(a.Ops, b.Ops) })
}

func sameTrees(a []impl.Tree, b []impl.Tree) bool {
	return slices.EqualFunc(a, b, sameTree)
}

func shownProgram(ms []impl.Module) string {
	const most = 5
	var list []string
	for _, m := range ms[:min(len(ms), most)] {
		list = append(list, fmt.Sprintf("%.70q: %s", m.Name, shownText(m.Text)))
	}
	return fmt.Sprintf("%d modules, %s", len(ms), strings.Join(list, ", "))
}

func wantUnit(t *testing.T, text string, want impl.Unit) {
	t.Helper()
	got, code, line := impl.ReadUnit(text)
	if code != 0 || line != 0 || !sameUnit(got, want) {
		t.Errorf("%s: %#v %d %d, not %#v", shownText(text), got, code, line, want)
	}
}

func wantNoUnit(t *testing.T, text string, code int, line int) {
	t.Helper()
	got, gotCode, at := impl.ReadUnit(text)
	if gotCode != code || at != line || !sameUnit(got, impl.Unit{}) {
		t.Errorf("%s: %#v %d %d, not nothing %d %d", shownText(text), got, gotCode, at, code, line)
	}
}

// wantScopes also asks for the promise that each scope is valid.
func wantScopes(t *testing.T, ms []impl.Module, want ...impl.Table) {
	t.Helper()
	got, code, witness := impl.Load(ms)
	if code != 0 || witness != 0 || !sameScopes(got, want) {
		t.Errorf("%s: %v %d %d, not %v", shownProgram(ms), got, code, witness, want)
	}
	for i, scope := range got {
		if impl.TableOk(scope) != 0 {
			t.Errorf("%s: the scope of %d is not valid", shownProgram(ms), i)
		}
	}
}

// wantNoScopes asks Trees and Refactor too, which lean on Load.
func wantNoScopes(t *testing.T, ms []impl.Module, code int, witness int) {
	t.Helper()
	got, gotCode, at := impl.Load(ms)
	if gotCode != code || at != witness || len(got) != 0 {
		t.Errorf("%s: %v %d %d, not nothing %d %d", shownProgram(ms), got, gotCode, at, code, witness)
	}
	wantNoTrees(t, ms, code, witness)
}

func wantTrees(t *testing.T, ms []impl.Module, want ...impl.Tree) {
	t.Helper()
	got, code, witness := impl.Trees(ms)
	if code != 0 || witness != 0 || !sameTrees(got, want) {
		t.Errorf("%s: %d trees %d %d", shownProgram(ms), len(got), code, witness)
	}
}

func wantNoTrees(t *testing.T, ms []impl.Module, code int, witness int) {
	t.Helper()
	got, gotCode, at := impl.Trees(ms)
	if gotCode != code || at != witness || len(got) != 0 {
		t.Errorf("%s: %d trees %d %d, not nothing %d %d", shownProgram(ms), len(got), gotCode, at, code, witness)
	}
	wantRefused(t, ms, impl.Request{}, 1)
}

func wantRefused(t *testing.T, ms []impl.Module, q impl.Request, code int) {
	t.Helper()
	if got, gotCode := impl.Refactor(ms, q); gotCode != code || len(got) != 0 {
		t.Errorf("%s, %+v: %s %d, not nothing %d", shownProgram(ms), q, shownProgram(got), gotCode, code)
	}
}

// wantRefactored also asks for the promise that the trees stay.
func wantRefactored(t *testing.T, ms []impl.Module, q impl.Request, want ...impl.Module) {
	t.Helper()
	got, code := impl.Refactor(ms, q)
	if code != 0 || !slices.Equal(got, want) {
		t.Errorf("%s, %+v: %s %d, not %s", shownProgram(ms), q, shownProgram(got), code, shownProgram(want))
		return
	}
	if fault := lostTree(ms, q, got); fault != "" {
		t.Errorf("%s, %+v: %s", shownProgram(ms), q, fault)
	}
}

// lostTree tells where a new program has not the trees of the old one, or
// another text in a module that is not touched.
func lostTree(ms []impl.Module, q impl.Request, changed []impl.Module) string {
	before, _, _ := impl.Trees(ms)
	after, code, _ := impl.Trees(changed)
	if code != 0 || len(after) != len(before) {
		return fmt.Sprintf("code %d of the new trees, %d of them", code, len(after))
	}
	scopes, _, _ := impl.Load(ms)
	for i, tr := range before {
		touched := slices.Contains(scopes[i].Ops, q.Op)
		if touched {
			tr = renamed(tr, q.Op, wordedNewOp(q).Text)
		}
		want, _ := impl.Erase(tr)
		if got, ok := impl.Erase(after[i]); !ok || !sameTree(got, want) {
			return fmt.Sprintf("module %d has the tree %s, not %s", i, shownTree(got), shownTree(want))
		}
		if !touched && changed[i] != ms[i] {
			return fmt.Sprintf("module %d is not touched and has changed", i)
		}
	}
	return ""
}

// lostBack tells where the request back does not lead to the old trees.
func lostBack(ms []impl.Module, q impl.Request, changed []impl.Module) string {
	back, code := impl.Refactor(changed, newText(q.Module, wordedNewOp(q), q.Op.Text))
	if code == 6 {
		return ""
	}
	if code != 0 {
		return fmt.Sprintf("code %d of the request back", code)
	}
	before, _, _ := impl.Trees(ms)
	after, code, _ := impl.Trees(back)
	if code != 0 || len(after) != len(before) {
		return fmt.Sprintf("code %d of the trees that came back", code)
	}
	for i := range before {
		want, _ := impl.Erase(before[i])
		if got, ok := impl.Erase(after[i]); !ok || !sameTree(got, want) {
			return fmt.Sprintf("module %d came back as %s, not %s", i, shownTree(got), shownTree(want))
		}
	}
	return ""
}

// declares asks for a declaration that is the operator in all fields.
func declares(ms []impl.Module, o impl.Op) bool {
	return slices.ContainsFunc(ms, func(m impl.Module) bool {
		u, _, _ := wordedReadUnit(m.Text)
		return slices.Contains(u.Ops, o)
	})
}
