package prose

import (
	"hauberk/api"
	"hauberk/lex"
)

// greatest is the greatest number.
const greatest = 1<<32 - 1

// many stands for as many expressions as there are.
const many = -1

// need is what a kind of expression or statement asks for: how many expressions, whether a name, and whether a number.
type need struct {
	args            int
	named, numbered bool
}

// all tells whether something holds of each thing of a list.
func all[T any](l []T, holds func(T) bool) bool {
	for _, x := range l {
		if !holds(x) {
			return false
		}
	}
	return true
}

// functionMade tells whether a function is well made.
func functionMade(f api.Func) bool {
	return name(f.Name) && resultFits(f) && all(f.Params, paramMade) && all(f.Body, stmtMade)
}

// resultFits tells whether a function's result is a scalar if it has one, else none.
func resultFits(f api.Func) bool {
	if f.Has {
		return typeMade(f.Result) && f.Result.Len == 0
	}
	return f.Result == api.Type{}
}

// paramMade tells whether a parameter has a name and a well made type.
func paramMade(p api.Param) bool { return name(p.Name) && typeMade(p.Type) }

// typeMade tells whether a type is well made.
func typeMade(t api.Type) bool {
	return (t.Label == api.Pub || t.Label == api.Sec) && lengthFits(t)
}

// lengthFits tells whether a type is of elements that there are, and of as many as there may be.
func lengthFits(t api.Type) bool {
	switch t.Elem {
	case api.TU32:
		return number(t.Len)
	case api.TMask:
		return t.Len == 0
	case api.TU8:
		return t.Len != 0 && number(t.Len)
	}
	return false
}

// stmtMade tells whether a statement is well made.
func stmtMade(s api.Stmt) bool {
	n, ok := ofStmt(s.Kind)
	return ok && n.met(s.Args, s.Name, s.Most) && callFits(s) && typeFits(s) && blocksFit(s) && all(s.Body, stmtMade) && all(s.Else, stmtMade)
}

// ofStmt tells what a kind of statement asks for, and whether there is such a kind.
func ofStmt(kind int) (need, bool) {
	switch kind {
	case api.SLet, api.SSet:
		return need{args: 1, named: true}, true
	case api.SVar:
		return need{named: true}, true
	case api.SStore:
		return need{args: 2, named: true}, true
	case api.SFor:
		return need{args: 1, named: true, numbered: true}, true
	case api.SIf, api.SCall, api.SReturn:
		return need{args: 1}, true
	}
	return need{}, false
}

// callFits tells whether what a statement calls is a call.
func callFits(s api.Stmt) bool { return s.Kind != api.SCall || s.Args[0].Kind == api.ECall }

// typeFits tells whether a statement's type is well made if its kind has one, else none.
func typeFits(s api.Stmt) bool {
	if s.Kind == api.SVar {
		return typeMade(s.Type)
	}
	return s.Type == api.Type{}
}

// blocksFit tells whether a statement has no blocks but those of its kind.
func blocksFit(s api.Stmt) bool {
	branch, loop := s.Kind == api.SIf, s.Kind == api.SFor
	return (branch || loop || len(s.Body) == 0) && (branch || !s.Has) && (s.Has || len(s.Else) == 0)
}

// exprMade tells whether an expression is well made.
func exprMade(x api.Expr) bool {
	n, ok := ofExpr(x.Kind)
	return ok && n.met(x.Args, x.Name, x.Num)
}

// ofExpr tells what a kind of expression asks for, and whether there is such a kind.
func ofExpr(kind int) (need, bool) {
	switch kind {
	case api.ENum:
		return need{numbered: true}, true
	case api.EName:
		return need{named: true}, true
	case api.EIndex:
		return need{args: 1, named: true}, true
	case api.ECall:
		return need{args: many, named: true}, true
	case api.ENot, api.ENeg, api.EFlip, api.EWord:
		return need{args: 1}, true
	case api.EShl, api.EShr, api.ERor:
		return need{args: 1, numbered: true}, true
	case api.EHigh, api.ECarry:
		return need{args: 2}, true
	case api.ESelect:
		return need{args: 3}, true
	}
	// No other kind but those of the signs between is left.
	_, level := between(kind)
	return need{args: 2}, level != alone
}

// met tells whether expressions, a name and a number are as they are asked for, and there are none that are not asked for.
func (n need) met(args []api.Expr, text string, value int) bool {
	if n.args != many && n.args != len(args) || !all(args, exprMade) {
		return false
	}
	if n.named && !name(text) || !n.named && text != "" {
		return false
	}
	return n.numbered && number(value) || value == 0
}

// number tells whether a number is one that lex knows.
func number(n int) bool { return 0 <= n && n <= greatest }

// name tells whether a text is a name: lex takes the whole of it as one token.
func name(s string) bool {
	l, _ := lex.Lex(s)
	return len(l) > 0 && l[0] == api.Token{Kind: api.KName, Text: s}
}
