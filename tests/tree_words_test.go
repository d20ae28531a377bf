package tests

import (
	"regexp"
	"slices"

	"loop.example/s0059/impl"
)

var opForm = regexp.MustCompile(`^[-+*/<>=!&|^~?:@%$.]+$`)

func hasOneKid(kind int) bool {
	return kind == impl.NodePrefix || kind == impl.NodePostfix || kind == impl.NodeGroup
}

// wordedStretch gives the place where the stretch of the node at the place
// begins, and -1 when there is no such stretch.
func wordedStretch(tr impl.Tree, place int) int {
	if place < 0 {
		return -1
	}
	n := tr.Nodes[place]
	switch {
	case n.Kind == impl.NodeInfix:
		begin := wordedStretch(tr, place-1)
		if n.B != place-1 || n.A != begin-1 {
			return -1
		}
		return wordedStretch(tr, begin-1)
	case hasOneKid(n.Kind):
		if n.A != place-1 || n.B != 0 {
			return -1
		}
		return wordedStretch(tr, place-1)
	case n.A != 0 || n.B != 0:
		return -1
	}
	return place
}

func wordedForm(n impl.Node) bool {
	switch n.Kind {
	case impl.NodeNumber:
		return numberForm.FindString(n.Text) == n.Text && n.Text != "" && len(n.Text) <= impl.MaxText
	case impl.NodeName:
		return nameForm.FindString(n.Text) == n.Text && n.Text != "" && len(n.Text) <= impl.MaxText
	case impl.NodePrefix, impl.NodeInfix, impl.NodePostfix:
		return opForm.MatchString(n.Text) && len(n.Text) <= impl.MaxSigns
	case impl.NodeGroup:
		return n.Text == ""
	}
	return false
}

func wordedInOrder(tr impl.Tree) bool {
	if len(tr.Nodes) < 1 || len(tr.Nodes) > impl.MaxNodes {
		return false
	}
	for _, n := range tr.Nodes {
		if !wordedForm(n) {
			return false
		}
	}
	return wordedStretch(tr, len(tr.Nodes)-1) == 0
}

// wordedOps gives the operators of a node, one at most over a valid table.
func wordedOps(ops impl.Table, n impl.Node) []impl.Op {
	var out []impl.Op
	for _, o := range ops.Ops {
		if o.Text == n.Text && (o.Kind == impl.KindPrefix && n.Kind == impl.NodePrefix ||
			o.Kind == impl.KindInfix && n.Kind == impl.NodeInfix ||
			o.Kind == impl.KindPostfix && n.Kind == impl.NodePostfix) {
			out = append(out, o)
		}
	}
	return out
}

func isOpNode(n impl.Node) bool {
	return n.Kind == impl.NodePrefix || n.Kind == impl.NodeInfix || n.Kind == impl.NodePostfix
}

func wordedWellFormed(ops impl.Table, tr impl.Tree) bool {
	return wordedInOrder(tr) && !slices.ContainsFunc(tr.Nodes, func(n impl.Node) bool {
		return isOpNode(n) && len(wordedOps(ops, n)) == 0
	})
}

func wordedLevel(ops impl.Table, n impl.Node) int {
	if isOpNode(n) {
		return wordedOps(ops, n)[0].Level
	}
	return impl.MaxLevel + 1
}

// wordedLeast is the document's table of the least of a hole.
func wordedLeast(o impl.Op) (int, int) {
	switch {
	case o.Kind != impl.KindInfix:
		return o.Level, 0
	case o.Side == impl.SideLeft:
		return o.Level, o.Level + 1
	case o.Side == impl.SideRight:
		return o.Level + 1, o.Level
	}
	return o.Level + 1, o.Level + 1
}

func wordedAdmissible(ops impl.Table, tr impl.Tree) bool {
	for _, n := range tr.Nodes {
		if !isOpNode(n) {
			continue
		}
		first, second := wordedLeast(wordedOps(ops, n)[0])
		if wordedLevel(ops, tr.Nodes[n.A]) < first {
			return false
		}
		if n.Kind == impl.NodeInfix && wordedLevel(ops, tr.Nodes[n.B]) < second {
			return false
		}
	}
	return true
}

func wordedTreeOk(ops impl.Table, tr impl.Tree) int {
	switch {
	case impl.TableOk(ops) != 0:
		return 1
	case !wordedWellFormed(ops, tr):
		return 2
	case !wordedAdmissible(ops, tr):
		return 3
	}
	return 0
}

func wordedYield(tr impl.Tree, place int) []string {
	n := tr.Nodes[place]
	switch n.Kind {
	case impl.NodePrefix:
		return append([]string{n.Text}, wordedYield(tr, n.A)...)
	case impl.NodePostfix:
		return append(wordedYield(tr, n.A), n.Text)
	case impl.NodeInfix:
		return slices.Concat(wordedYield(tr, n.A), []string{n.Text}, wordedYield(tr, n.B))
	case impl.NodeGroup:
		return slices.Concat([]string{"("}, wordedYield(tr, n.A), []string{")"})
	}
	return []string{n.Text}
}

func wordedHeight(tr impl.Tree, place int) int {
	n := tr.Nodes[place]
	switch {
	case n.Kind == impl.NodeInfix:
		return 1 + max(wordedHeight(tr, n.A), wordedHeight(tr, n.B))
	case hasOneKid(n.Kind):
		return 1 + wordedHeight(tr, n.A)
	}
	return 1
}

// allTrees searches through every well-formed tree with the tokens, which have
// no TokEnd, as its yield.
func allTrees(ops impl.Table, list []impl.Token) []impl.Tree {
	var out []impl.Tree
	if len(list) == 0 {
		return nil
	}
	first, last := list[0], list[len(list)-1]
	if len(list) == 1 && (first.Kind == impl.TokNumber || first.Kind == impl.TokName) {
		out = append(out, atom(first.Text))
	}
	if first.Kind == impl.TokOp && someOp(ops, first.Text, impl.KindPrefix) {
		for _, kid := range allTrees(ops, list[1:]) {
			out = append(out, pre(first.Text, kid))
		}
	}
	if last.Kind == impl.TokOp && someOp(ops, last.Text, impl.KindPostfix) {
		for _, kid := range allTrees(ops, list[:len(list)-1]) {
			out = append(out, post(kid, last.Text))
		}
	}
	if len(list) > 2 && first.Kind == impl.TokOpen && last.Kind == impl.TokClose {
		for _, kid := range allTrees(ops, list[1:len(list)-1]) {
			out = append(out, group(kid))
		}
	}
	for at, token := range list {
		if token.Kind == impl.TokOp && someOp(ops, token.Text, impl.KindInfix) {
			out = append(out, allJoined(ops, list, at)...)
		}
	}
	return out
}

func allJoined(ops impl.Table, list []impl.Token, at int) []impl.Tree {
	var out []impl.Tree
	seconds := allTrees(ops, list[at+1:])
	if len(seconds) == 0 {
		return nil
	}
	for _, first := range allTrees(ops, list[:at]) {
		for _, second := range seconds {
			out = append(out, in(first, list[at].Text, second))
		}
	}
	return out
}

// searched gives the admissible trees among all trees with the tokens.
func searched(ops impl.Table, list []impl.Token) []impl.Tree {
	return slices.DeleteFunc(allTrees(ops, list), func(tr impl.Tree) bool {
		return !wordedAdmissible(ops, tr)
	})
}

// wordedParse is for texts so short that no tree is too high.
func wordedParse(ops impl.Table, s string) (impl.Tree, int, int) {
	list := wordedLex(ops, s)
	offset := 0
	for _, token := range list {
		if token.Kind == impl.TokBad {
			return tree(), 3, offset + len(token.Gap)
		}
		offset += len(token.Gap) + len(token.Text)
	}
	if _, misfit := wordedRoles(ops, list); misfit >= 0 {
		return tree(), 4, len(impl.Render(list[:misfit])) + len(list[misfit].Gap)
	}
	found := searched(ops, list[:len(list)-1])
	if len(found) == 0 {
		return tree(), 5, 0
	}
	return found[0], 0, 0
}
