package syntax

import "hauberk/api"

// How tight signs between two bind, those that bind the loosest first; 0 is the level of none.
const (
	comparing = 1 + iota
	oring
	xoring
	anding
	shifting
	adding
	multiplying
)

// between are the signs between two, each with what it makes and its level.
var between = [...]struct {
	sign        string
	kind, level int
}{
	{"==", api.EEq, comparing},
	{"!=", api.ENe, comparing},
	{"<", api.ELt, comparing},
	{"<=", api.ELe, comparing},
	{">", api.EGt, comparing},
	{">=", api.EGe, comparing},
	{"|", api.EOr, oring},
	{"^", api.EXor, xoring},
	{"&", api.EAnd, anding},
	{"<<", api.EShl, shifting},
	{">>", api.EShr, shifting},
	{"+", api.EAdd, adding},
	{"-", api.ESub, adding},
	{"*", api.EMul, multiplying},
}

// find tells what a sign between two makes, and its level; 0 and 0, if it is none.
func find(sign string) (int, int) {
	for _, x := range between {
		if x.sign == sign {
			return x.kind, x.level
		}
	}
	return 0, 0
}

// ahead tells what a sign ahead of one makes; 0, if it is none.
func ahead(sign string) int {
	switch sign {
	case "~":
		return api.ENot
	case "-":
		return api.ENeg
	case "!":
		return api.EFlip
	}
	return 0
}

// expr reads an expression: unlike other signs between two there is at most one comparison.
func (r *reader) expr() api.Expr {
	x, _ := r.further(comparing, r.chain(comparing+1))
	return x
}

// chain reads what signs between two of a level, and those that bind tighter, make from the left.
func (r *reader) chain(level int) api.Expr {
	if level > multiplying {
		return r.unary()
	}
	x, more := r.chain(level+1), true
	for more {
		x, more = r.further(level, x)
	}
	return x
}

// further reads a sign between two of a level and what is on its right, if such a sign is next, and tells what they make of what is on its left, and whether there was one.
func (r *reader) further(level int, left api.Expr) (api.Expr, bool) {
	sign := r.next()
	kind, at := find(sign.Text)
	if at != level {
		return left, false
	}
	r.want(sign.Text)
	x := api.Expr{Kind: kind, Pos: sign.Pos, Args: []api.Expr{left}}
	if level == shifting {
		x.Num = r.take(api.KNumber).Num
	} else {
		x.Args = append(x.Args, r.chain(level+1))
	}
	return x, true
}

// unary reads what signs ahead make of what they stand ahead of.
func (r *reader) unary() api.Expr {
	sign := r.next()
	kind := ahead(sign.Text)
	if kind == 0 {
		return r.primary()
	}
	r.open(sign.Text)
	x := api.Expr{Kind: kind, Pos: sign.Pos, Args: []api.Expr{r.unary()}}
	r.nests--
	return x
}

// primary reads what no sign stands ahead of.
func (r *reader) primary() api.Expr {
	t := r.next()
	switch {
	case t.Kind == api.KNumber:
		return api.Expr{Kind: api.ENum, Pos: t.Pos, Num: r.take(api.KNumber).Num}
	case t.Kind == api.KName:
		return r.known()
	case r.is("("):
		r.open("(")
		x := r.expr()
		r.shut(")")
		return x
	}
	return r.called()
}

// known reads a name, with an index or with what is handed over, if there is one.
func (r *reader) known() api.Expr {
	name := r.take(api.KName)
	x := api.Expr{Kind: api.EName, Pos: name.Pos, Name: name.Text}
	switch {
	case r.is("("):
		return r.call(name)
	case r.is("["):
		x.Kind = api.EIndex
		x.Args = []api.Expr{r.index()}
	}
	return x
}

// call reads what is handed over behind a name.
func (r *reader) call(name api.Token) api.Expr {
	return api.Expr{Kind: api.ECall, Pos: name.Pos, Name: name.Text, Args: list(r, 0, many, r.expr)}
}

// index reads an index in brackets.
func (r *reader) index() api.Expr {
	r.open("[")
	x := r.expr()
	r.shut("]")
	return x
}

// called reads a word of the language that is called.
func (r *reader) called() api.Expr {
	x := api.Expr{Pos: r.next().Pos}
	switch {
	case r.may("mulhi"):
		x.Kind, x.Args = api.EHigh, list(r, 2, 2, r.expr)
	case r.may("carry"):
		x.Kind, x.Args = api.ECarry, list(r, 2, 2, r.expr)
	case r.may("select"):
		x.Kind, x.Args = api.ESelect, list(r, 3, 3, r.expr)
	case r.may("word"):
		x.Kind, x.Args = api.EWord, list(r, 1, 1, r.expr)
	case r.may("ror"):
		x.Kind, x.Args = api.ERor, list(r, 1, 1, func() api.Expr {
			y := r.expr()
			r.want(",")
			x.Num = r.take(api.KNumber).Num
			return y
		})
	default:
		r.fail(api.ErrSyntax)
	}
	return x
}
