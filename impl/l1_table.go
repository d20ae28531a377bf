package impl

import "strings"

// Limits of operators.
const MaxOps = 500
const MaxSigns = 16
const MaxLevel = 1000

// The kinds of operators.
const KindPrefix = 1
const KindInfix = 2
const KindPostfix = 3

// The sides of infix operators.
const SideLeft = 1
const SideRight = 2
const SideNone = 3

// Op is a declared operator.
type Op struct {
	Text  string
	Kind  int
	Level int
	Side  int
}

// Table is a list of operators.
type Table struct {
	Ops []Op
}

const signs = "+-*/<>=!&|^~?:@%$."

const (
	sortLeft  = 1
	sortRight = 2
	sortLone  = 3
)

const (
	tableValid     = 0
	tableTooLong   = 1
	tableIllFormed = 2
	tableRivals    = 3
	tableMixed     = 4
)

// opKey is enough to find an operator, because a valid table has no two
// operators with the same text and kind.
type opKey struct {
	text string
	kind int
}

type tableIndex struct {
	ops   map[opKey]Op
	sorts map[int]int // from a level to the sort of its operators
}

// TableOk says whether a table is valid.
func TableOk(t Table) int {
	_, code := indexTable(t)
	return code
}

// Hole is the least level of an operand.
func Hole(o Op, second bool) int {
	if !wellFormed(o) {
		return 0
	}
	if o.Kind == KindInfix {
		return infixHole(o, second)
	}
	if second {
		return 0
	}
	return o.Level
}

// Union joins two tables.
func Union(a Table, b Table) Table {
	seen := map[Op]struct{}{}
	ops := appendUnseen(nil, a.Ops, seen)
	return Table{Ops: appendUnseen(ops, b.Ops, seen)}
}

func isSign(c byte) bool {
	return strings.IndexByte(signs, c) >= 0
}

func isOpText(s string) bool {
	if len(s) < 1 || len(s) > MaxSigns {
		return false
	}
	for i := range len(s) {
		if !isSign(s[i]) {
			return false
		}
	}
	return true
}

func sideFits(o Op) bool {
	switch o.Kind {
	case KindInfix:
		return o.Side == SideLeft || o.Side == SideRight || o.Side == SideNone
	case KindPrefix, KindPostfix:
		return o.Side == 0
	}
	return false
}

func wellFormed(o Op) bool {
	return isOpText(o.Text) && o.Level >= 1 && o.Level <= MaxLevel && sideFits(o)
}

func allWellFormed(ops []Op) bool {
	for _, o := range ops {
		if !wellFormed(o) {
			return false
		}
	}
	return true
}

func sortOf(o Op) int {
	switch {
	case o.Kind == KindPostfix || o.Side == SideLeft:
		return sortLeft
	case o.Kind == KindPrefix || o.Side == SideRight:
		return sortRight
	}
	return sortLone
}

// indexTable gives the index only with the code 0: over a table that is not
// valid a key could stand for several operators.
func indexTable(t Table) (tableIndex, int) {
	if len(t.Ops) > MaxOps {
		return tableIndex{}, tableTooLong
	}
	if !allWellFormed(t.Ops) {
		return tableIndex{}, tableIllFormed
	}
	x := tableIndex{ops: map[opKey]Op{}, sorts: map[int]int{}}
	mixed := false
	for _, o := range t.Ops {
		if x.hasRival(o) {
			return tableIndex{}, tableRivals
		}
		// Mixed levels are told only at the end: rivals further on come first.
		mixed = mixed || x.hasOtherSort(o)
		x.add(o)
	}
	if mixed {
		return tableIndex{}, tableMixed
	}
	return x, tableValid
}

func (x tableIndex) has(text string, kind int) bool {
	_, found := x.ops[opKey{text, kind}]
	return found
}

// hasRival holds infix and postfix operators against each other too: both
// stand behind an operand, so their texts alone must tell them apart.
func (x tableIndex) hasRival(o Op) bool {
	if o.Kind == KindPrefix {
		return x.has(o.Text, KindPrefix)
	}
	return x.has(o.Text, KindInfix) || x.has(o.Text, KindPostfix)
}

func (x tableIndex) hasOtherSort(o Op) bool {
	sort, found := x.sorts[o.Level]
	return found && sort != sortOf(o)
}

func (x tableIndex) add(o Op) {
	x.ops[opKey{o.Text, o.Kind}] = o
	x.sorts[o.Level] = sortOf(o)
}

func infixHole(o Op, second bool) int {
	open := SideLeft
	if second {
		open = SideRight
	}
	if o.Side == open {
		return o.Level
	}
	return o.Level + 1
}

// appendUnseen writes into seen, so that a later call leaves out what an
// earlier one has taken.
func appendUnseen(to []Op, from []Op, seen map[Op]struct{}) []Op {
	for _, o := range from {
		if _, found := seen[o]; found {
			continue
		}
		seen[o] = struct{}{}
		to = append(to, o)
	}
	return to
}
