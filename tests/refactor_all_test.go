package tests

import (
	"fmt"
	"math/rand/v2"
	"slices"
	"strings"
	"testing"

	"loop.example/s0059/impl"
)

// holdRefactor holds Refactor against the document's words and asks for the
// promises that the trees stay and that a change of the text leads back.
func holdRefactor(t *testing.T, ms []impl.Module, q impl.Request, codes []int) {
	t.Helper()
	got, code := impl.Refactor(ms, q)
	want, wantCode := wordedRefactor(ms, q)
	if code != wantCode || !slices.Equal(got, want) {
		t.Fatalf("%q, %+v: %q %d, not %q %d", ms, q, got, code, want, wantCode)
	}
	codes[code]++
	if code != 0 {
		return
	}
	if fault := lostTree(ms, q, got); fault != "" {
		t.Fatalf("%q, %+v: %q, %s", ms, q, got, fault)
	}
	if q.Kind != impl.ChangeText || declares(ms, wordedNewOp(q)) {
		return
	}
	if fault := lostBack(ms, q, got); fault != "" {
		t.Fatalf("%q, %+v: %q, %s", ms, q, got, fault)
	}
}

// wantCodes passes over code 6, which comes up only at limits.
func wantCodes(t *testing.T, codes []int, least int) {
	t.Helper()
	for code, n := range codes {
		if n < least && code != 6 {
			t.Errorf("%v: code %d came up %d times", codes, code, n)
		}
	}
}

// eachChange hands over many requests for a change of the operator.
func eachChange(module string, o impl.Op, do func(impl.Request)) {
	for _, text := range []string{"+", "-", "!", "--", "a", ""} {
		do(newText(module, o, text))
	}
	for level := range 5 {
		for side := range 4 {
			do(newLevel(module, o, level, side))
		}
	}
}

func TestRefactorOfAllSmallBodies(t *testing.T) {
	codes := make([]int, 7)
	for _, ops := range smallTables() {
		for n := range 3 {
			for _, tr := range bareTrees(ops, n) {
				m := declaring("m", ops.Ops, wordedPrint(ops, tr))
				for _, o := range ops.Ops {
					eachChange("m", o, func(q impl.Request) { holdRefactor(t, mods(m), q, codes) })
				}
			}
		}
	}
	wantCodes(t, []int{codes[0], codes[4], codes[5]}, 1000)
}

// The modules stand in a row, a ring, a fork or apart; what one declares may be
// what another one declares.
func TestRefactorOfAllSmallPrograms(t *testing.T) {
	codes := make([]int, 7)
	headers := []string{"", "infix + 2 left;", "prefix - 3;", "infix + 2 left;prefix + 3;", "infix - 2 left;postfix ! 1;", "use a;", "use b;", "use b;prefix - 1;"}
	bodies := []string{"(1)", "-1+2", "1+(2+3)"}
	var pool []impl.Module
	for _, name := range []string{"a", "b"} {
		for _, header := range headers {
			for _, body := range bodies {
				pool = append(pool, mod(name, header+"begin;"+body))
			}
		}
	}
	requests := []impl.Request{
		newText("a", infix("+", 2, impl.SideLeft), "-"), newText("b", infix("+", 2, impl.SideLeft), "++"), newText("b", prefix("-", 3), "+"),
		newLevel("a", infix("+", 2, impl.SideLeft), 3, impl.SideRight), newLevel("a", infix("+", 2, impl.SideLeft), 3, impl.SideLeft), newLevel("a", prefix("-", 3), 1, 0), newLevel("b", infix("-", 2, impl.SideLeft), 9, impl.SideNone),
		newLevel("a", infix("+", 2, impl.SideLeft), 2, impl.SideLeft), {Kind: impl.ChangeText, Module: "a", Op: prefix("-", 3), Text: "+", Level: 1},
	}
	eachList(pool, 2, func(ms []impl.Module) {
		for _, q := range requests {
			holdRefactor(t, ms, q, codes)
			holdRefactor(t, append(ms, mod("c", "use b;use a;begin;(1+2)")), q, codes)
		}
	})
	wantCodes(t, codes, 20)
}

// maker makes programs from a source that is the same each time.
type maker struct {
	*rand.Rand
}

func (r maker) pick(list ...string) string {
	return list[r.IntN(len(list))]
}

func (r maker) blanks(least int) string {
	return strings.Repeat(" ", least+max(0, r.IntN(6)-3))
}

func (r maker) text() string {
	return r.pick("+", "-", "*", "!", "++", "+-", "--", "*!", "<")
}

func (r maker) op() impl.Op {
	level := 1 + r.IntN(9)
	switch r.IntN(4) {
	case 0:
		return prefix(r.text(), level)
	case 1:
		return postfix(r.text(), level)
	}
	return infix(r.text(), level, 1+r.IntN(3))
}

// line writes words with odd blanks, and levels with zeros in front.
func (r maker) line(o impl.Op) string {
	words := strings.Fields(wordedLine(o))
	words[2] = strings.Repeat("0", r.IntN(3)) + words[2]
	out := r.blanks(0)
	for _, word := range words {
		out += word + r.blanks(1)
	}
	return out[:len(out)-1]
}

// tree has so many operator nodes at the most, and groups anywhere.
func (r maker) tree(ops impl.Table, most int) impl.Tree {
	out := atom(r.pick("a", "b", "1", "begin", "x_2"))
	if most > 0 && len(ops.Ops) > 0 {
		o := ops.Ops[r.IntN(len(ops.Ops))]
		switch o.Kind {
		case impl.KindPrefix:
			out = pre(o.Text, r.tree(ops, most-1))
		case impl.KindPostfix:
			out = post(r.tree(ops, most-1), o.Text)
		default:
			first := r.IntN(most)
			out = in(r.tree(ops, first), o.Text, r.tree(ops, most-1-first))
		}
	}
	if r.IntN(4) == 0 {
		return group(out)
	}
	return out
}

// body writes a tree with the groups that it has and those that it needs.
func (r maker) body(ops impl.Table, tr impl.Tree) string {
	full := r.withNeeded(ops, tr, len(tr.Nodes)-1)
	out := r.pick("", " ", "\n")
	for _, token := range wordedYield(full, len(full.Nodes)-1) {
		out += token + r.pick(" ", " ", "  ", "\n", "\t")
	}
	return out
}

func (r maker) withNeeded(ops impl.Table, tr impl.Tree, place int) impl.Tree {
	n := tr.Nodes[place]
	if n.Kind == impl.NodeGroup {
		return group(r.withNeeded(ops, tr, n.A))
	}
	if !isOpNode(n) {
		return tree(n)
	}
	first, second := wordedLeast(wordedOps(ops, n)[0])
	kid := func(at int, least int) impl.Tree {
		if wordedLevel(ops, tr.Nodes[at]) < least {
			return group(r.withNeeded(ops, tr, at))
		}
		return r.withNeeded(ops, tr, at)
	}
	if n.Kind == impl.NodeInfix {
		return in(kid(n.A, first), n.Text, kid(n.B, second))
	}
	return above(n.Kind, n.Text, kid(n.A, first))
}

// program has modules that use those in front of them. It is wrong where the
// operators of those that one module uses do not go together.
func (r maker) program() []impl.Module {
	var ms []impl.Module
	for i := range 1 + r.IntN(4) {
		m := mod(fmt.Sprintf("m%d", i), "")
		for _, used := range r.Perm(i) {
			if r.IntN(2) == 0 {
				m.Text += r.blanks(0) + fmt.Sprintf("use m%d", used) + r.blanks(0) + "\n"
			}
		}
		m.Text = r.declared(append(ms, m))
		m.Text += r.blanks(0) + "begin" + r.blanks(0) + "\n"
		scopes, _, _ := wordedLoad(append(slices.Clone(ms), m))
		if scopes == nil {
			return append(ms, mod("wrong", ""))
		}
		m.Text += r.body(scopes[i], r.tree(scopes[i], r.IntN(5)))
		ms = append(ms, m)
	}
	r.Shuffle(len(ms), func(i, j int) { ms[i], ms[j] = ms[j], ms[i] })
	return ms
}

// declared gives the text of the last module with some more declarations that
// keep the program valid.
func (r maker) declared(ms []impl.Module) string {
	last := len(ms) - 1
	text := ms[last].Text
	for range r.IntN(5) {
		longer := text + r.line(r.op()) + "\n" + r.pick("", "", "\n", "  \n")
		if r.IntN(8) == 0 {
			longer += r.pick(text, r.line(infix("+", 6, impl.SideLeft))+"\n")
		}
		tried := append(slices.Clone(ms[:last]), impl.Module{Name: ms[last].Name, Text: longer + "begin\n"})
		if _, code, _ := wordedLoad(tried); code == 0 {
			text = longer
		}
	}
	return text
}

// request mostly names an operator that some module declares.
func (r maker) request(ms []impl.Module) impl.Request {
	m := ms[r.IntN(len(ms))]
	u, _, _ := wordedReadUnit(m.Text)
	q := impl.Request{Kind: 1 + r.IntN(2), Module: m.Name, Op: r.op()}
	if len(u.Ops) > 0 && r.IntN(20) > 0 {
		q.Op = u.Ops[r.IntN(len(u.Ops))]
	}
	if q.Kind == impl.ChangeText || r.IntN(40) == 0 {
		q.Text = r.text()
	}
	if q.Kind == impl.ChangeLevel || r.IntN(40) == 0 {
		q.Level, q.Side = 1+r.IntN(10), q.Op.Side
		if q.Side > 0 {
			q.Side = 1 + r.IntN(3)
		}
	}
	return q
}

func TestRefactorOfManyPrograms(t *testing.T) {
	codes := make([]int, 7)
	r := maker{rand.New(rand.NewPCG(5, 15))}
	for range 3000 {
		ms := r.program()
		for range 6 {
			holdRefactor(t, ms, r.request(ms), codes)
		}
	}
	wantCodes(t, codes, 50)
}
