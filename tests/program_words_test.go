package tests

import (
	"fmt"
	"regexp"
	"slices"
	"strconv"
	"strings"

	"loop.example/s0059/impl"
)

// The forms of lines, said without cutting them into words.
var (
	beginForm  = regexp.MustCompile(`^ *begin *$`)
	emptyForm  = regexp.MustCompile(`^ *$`)
	useForm    = regexp.MustCompile(`^ *use +([^ ]+) *$`)
	singleForm = regexp.MustCompile(`^ *(prefix|postfix) +([^ ]+) +([0-9]{1,6}) *$`)
	infixForm  = regexp.MustCompile(`^ *infix +([^ ]+) +([0-9]{1,6}) +(left|right|none) *$`)
)

var wordedSides = []string{"", "left", "right", "none"}

// wordedOp gives the operator that a line declares, and whether it declares one.
func wordedOp(line string) (impl.Op, bool) {
	if found := singleForm.FindStringSubmatch(line); found != nil {
		level, _ := strconv.Atoi(found[3])
		if found[1] == "prefix" {
			return prefix(found[2], level), true
		}
		return postfix(found[2], level), true
	}
	if found := infixForm.FindStringSubmatch(line); found != nil {
		level, _ := strconv.Atoi(found[2])
		return infix(found[1], level, slices.Index(wordedSides, found[3])), true
	}
	return impl.Op{}, false
}

func wordedLine(o impl.Op) string {
	switch o.Kind {
	case impl.KindPrefix:
		return fmt.Sprintf("prefix %s %d", o.Text, o.Level)
	case impl.KindPostfix:
		return fmt.Sprintf("postfix %s %d", o.Text, o.Level)
	}
	return fmt.Sprintf("infix %s %d %s", o.Text, o.Level, wordedSides[o.Side])
}

func wordedReadUnit(text string) (impl.Unit, int, int) {
	if len(text) > impl.MaxText {
		return impl.Unit{}, 1, 0
	}
	lines := strings.Split(text, "\n")
	begin := slices.IndexFunc(lines, beginForm.MatchString)
	header := lines
	if begin >= 0 {
		header = lines[:begin]
	}
	var u impl.Unit
	for i, line := range header {
		o, declares := wordedOp(line)
		use := useForm.FindStringSubmatch(line)
		switch {
		case declares:
			u.Ops = append(u.Ops, o)
		case use != nil:
			u.Uses = append(u.Uses, use[1])
		case !emptyForm.MatchString(line):
			return impl.Unit{}, 2, i + 1
		}
	}
	if begin < 0 {
		return impl.Unit{}, 3, 0
	}
	u.Body = strings.Join(lines[begin+1:], "\n")
	return u, 0, 0
}

// wordedProgram knows for each module the positions of those that it uses, -1
// for a use of no module.
type wordedProgram struct {
	modules []impl.Module
	units   []impl.Unit
	codes   []int
	uses    [][]int
}

func readWorded(ms []impl.Module) wordedProgram {
	p := wordedProgram{modules: ms}
	for _, m := range ms {
		u, code, _ := wordedReadUnit(m.Text)
		p.units, p.codes = append(p.units, u), append(p.codes, code)
		var uses []int
		for _, used := range u.Uses {
			uses = append(uses, slices.IndexFunc(ms, func(m impl.Module) bool { return m.Name == used }))
		}
		p.uses = append(p.uses, uses)
	}
	return p
}

// reaches asks for a way of at most so many uses.
func (p wordedProgram) reaches(from int, to int, most int) bool {
	return most > 0 && slices.ContainsFunc(p.uses[from], func(used int) bool {
		return used == to || p.reaches(used, to, most-1)
	})
}

func (p wordedProgram) scope(i int) impl.Table {
	ops := wordedUnion(p.units[i].Ops, nil)
	for _, used := range p.uses[i] {
		ops = wordedUnion(ops, p.scope(used).Ops)
	}
	return table(ops...)
}

// wordedLoad is for programs so small that every way of uses can be gone.
func wordedLoad(ms []impl.Module) ([]impl.Table, int, int) {
	if len(ms) > impl.MaxModules {
		return nil, 1, impl.MaxModules
	}
	p := readWorded(ms)
	applies := []func(i int) bool{
		func(i int) bool {
			name := ms[i].Name
			return name == "" || nameForm.FindString(name) != name || len(name) > impl.MaxName || p.codes[i] != 0
		},
		func(i int) bool {
			return slices.ContainsFunc(ms[:i], func(m impl.Module) bool { return m.Name == ms[i].Name })
		},
		func(i int) bool { return slices.Contains(p.uses[i], -1) },
		func(i int) bool { return p.reaches(i, i, len(ms)) },
		func(i int) bool { return impl.TableOk(p.scope(i)) != 0 },
	}
	for code, applies := range applies {
		for i := range ms {
			if applies(i) {
				return nil, code + 2, i
			}
		}
	}
	var scopes []impl.Table
	for i := range ms {
		scopes = append(scopes, p.scope(i))
	}
	return scopes, 0, 0
}

func wordedTrees(ms []impl.Module) ([]impl.Tree, int, int) {
	scopes, code, witness := wordedLoad(ms)
	if code != 0 {
		return nil, code, witness
	}
	var trees []impl.Tree
	for i, m := range ms {
		u, _, _ := wordedReadUnit(m.Text)
		tr, code, _ := impl.Parse(scopes[i], u.Body)
		if code != 0 {
			return nil, 10 + code, i
		}
		trees = append(trees, tr)
	}
	return trees, 0, 0
}

func wordedNewOp(q impl.Request) impl.Op {
	o := q.Op
	if q.Kind == impl.ChangeText {
		o.Text = q.Text
		return o
	}
	o.Level, o.Side = q.Level, q.Side
	return o
}

func replaced(scope impl.Table, old impl.Op, now impl.Op) impl.Table {
	ops := slices.Clone(scope.Ops)
	ops[slices.Index(ops, old)] = now
	return table(ops...)
}

// renamed gives each node of the operator the text.
func renamed(tr impl.Tree, o impl.Op, text string) impl.Tree {
	out := tree(slices.Clone(tr.Nodes)...)
	for i, n := range tr.Nodes {
		if len(wordedOps(table(o), n)) == 1 {
			out.Nodes[i].Text = text
		}
	}
	return out
}

// wordedRefusal is the code that hangs on the request and the scopes.
func wordedRefusal(ms []impl.Module, scopes []impl.Table, q impl.Request) int {
	text := q.Kind == impl.ChangeText && q.Level == 0 && q.Side == 0
	if level := q.Kind == impl.ChangeLevel && q.Text == ""; !text && !level {
		return 2
	}
	var where []string
	for _, m := range ms {
		u, _, _ := wordedReadUnit(m.Text)
		for _, o := range u.Ops {
			if o == q.Op {
				where = append(where, m.Name)
			}
		}
	}
	if len(where) != 1 || where[0] != q.Module {
		return 3
	}
	now := wordedNewOp(q)
	touched := slices.DeleteFunc(slices.Clone(scopes), func(scope impl.Table) bool { return !slices.Contains(scope.Ops, q.Op) })
	if !formed(now) || slices.ContainsFunc(touched, func(scope impl.Table) bool { return slices.Contains(scope.Ops, now) }) {
		return 4
	}
	if slices.ContainsFunc(touched, func(scope impl.Table) bool { return impl.TableOk(replaced(scope, q.Op, now)) != 0 }) {
		return 5
	}
	return 0
}

// wordedText is the new text of a touched module.
func wordedText(m impl.Module, scope impl.Table, tr impl.Tree, q impl.Request) string {
	now := wordedNewOp(q)
	lines := strings.Split(m.Text, "\n")
	begin := slices.IndexFunc(lines, beginForm.MatchString)
	lines = slices.Clone(lines[:begin+1])
	for i, line := range lines {
		if o, declares := wordedOp(line); declares && o == q.Op && m.Name == q.Module {
			lines[i] = wordedLine(now)
		}
	}
	return strings.Join(lines, "\n") + "\n" + wordedPrint(replaced(scope, q.Op, now), renamed(tr, q.Op, now.Text))
}

func wordedRefactor(ms []impl.Module, q impl.Request) ([]impl.Module, int) {
	trees, code, _ := wordedTrees(ms)
	if code != 0 {
		return nil, 1
	}
	scopes, _, _ := wordedLoad(ms)
	if code := wordedRefusal(ms, scopes, q); code != 0 {
		return nil, code
	}
	var out []impl.Module
	for i, m := range ms {
		if slices.Contains(scopes[i].Ops, q.Op) {
			m.Text = wordedText(m, scopes[i], trees[i], q)
		}
		out = append(out, m)
	}
	if _, code, _ := wordedTrees(out); code != 0 {
		return nil, 6
	}
	return out, 0
}
