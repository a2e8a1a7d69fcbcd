package prose

import "hauberk/api"

// How tight signs between two bind, those that bind the loosest first. What no sign between made stands alone: it is tighter than all of them.
const (
	comparing = iota
	oring
	xoring
	anding
	shifting
	adding
	multiplying
	alone
)

// signs are the signs between two, each with what it makes and its level.
var signs = [...]struct {
	kind  int
	sign  string
	level int
}{
	{api.EEq, "==", comparing},
	{api.ENe, "!=", comparing},
	{api.ELt, "<", comparing},
	{api.ELe, "<=", comparing},
	{api.EGt, ">", comparing},
	{api.EGe, ">=", comparing},
	{api.EOr, "|", oring},
	{api.EXor, "^", xoring},
	{api.EAnd, "&", anding},
	{api.EShl, "<<", shifting},
	{api.EShr, ">>", shifting},
	{api.EAdd, "+", adding},
	{api.ESub, "-", adding},
	{api.EMul, "*", multiplying},
}

// between tells the sign between that makes a kind, and its level; none and alone, if no such sign does.
func between(kind int) (string, int) {
	for _, x := range signs {
		if x.kind == kind {
			return x.sign, x.level
		}
	}
	return "", alone
}

// expressions writes expressions.
type expressions struct {
	sheet
	nesting
}

// nest writes what lies in a nest. One that lies too deep is left out: the text is not told then.
func (e *expressions) nest(open, shut string, within func()) {
	if !e.enter() {
		return
	}
	e.put(open)
	within()
	e.put(shut)
	e.leave()
}

// expr writes an expression.
func (e *expressions) expr(x api.Expr) {
	switch x.Kind {
	case api.ENum:
		e.number(x.Num)
	case api.EName:
		e.put(x.Name)
	case api.EIndex:
		e.put(x.Name)
		e.index(x.Args[0])
	case api.ECall:
		e.called(x.Name, x.Args)
	case api.ENot:
		e.signed("~", x.Args[0])
	case api.ENeg:
		e.signed("-", x.Args[0])
	case api.EFlip:
		e.signed("!", x.Args[0])
	case api.EHigh:
		e.called("mulhi", x.Args)
	case api.ECarry:
		e.called("carry", x.Args)
	case api.ESelect:
		e.called("select", x.Args)
	case api.EWord:
		e.called("word", x.Args)
	case api.ERor:
		e.turned(x)
	default:
		e.joined(x)
	}
}

// index writes an index in brackets.
func (e *expressions) index(x api.Expr) {
	e.nest("[", "]", func() { e.expr(x) })
}

// called writes a name or a word, and what is handed over.
func (e *expressions) called(name string, args []api.Expr) {
	e.put(name)
	e.nest("(", ")", func() { listed(&e.sheet, args, e.expr) })
}

// turned writes a ror, the last thing of which is no expression.
func (e *expressions) turned(x api.Expr) {
	e.put("ror")
	e.nest("(", ")", func() {
		e.expr(x.Args[0])
		e.put(", ")
		e.number(x.Num)
	})
}

// signed writes a sign ahead, and what it stands ahead of: the nest ends with that, without a sign of its own.
func (e *expressions) signed(sign string, x api.Expr) {
	e.nest(sign, "", func() { e.part(x, alone) })
}

// joined writes a sign between and what stands beside it. A comparison has parentheses on either side of another one.
func (e *expressions) joined(x api.Expr) {
	sign, level := between(x.Kind)
	e.part(x.Args[0], max(level, oring))
	e.put(" ", sign, " ")
	if level == shifting {
		e.number(x.Num)
		return
	}
	e.part(x.Args[1], level+1)
}

// part writes what stands beside a sign, in parentheses if a sign between made it that binds looser than it may there.
func (e *expressions) part(x api.Expr, loosest int) {
	if _, level := between(x.Kind); level < loosest {
		e.nest("(", ")", func() { e.expr(x) })
		return
	}
	e.expr(x)
}
