package prose

import (
	"math/rand/v2"
	"strings"

	"hauberk/api"
)

// chance makes well made things of chance.
type chance struct {
	r    *rand.Rand
	left int  // how much more there should be
	wild bool // whether things lie in one another as deep as they may
}

// one tells whether a thing comes about that has so many chances.
func (c *chance) one(chances int) bool { return c.r.IntN(chances) == 0 }

// more tells whether there should be another thing.
func (c *chance) more() bool {
	c.left--
	return c.left > 0 && !c.one(3)
}

// pos is a place, be there such a place or not.
func (c *chance) pos() int { return int(c.r.Uint64()) >> c.r.IntN(64) }

// name makes a name.
func (c *chance) name() string {
	if c.one(2) {
		return []string{"a", "b", "x", "_", "main", "fnx", "max1", "u", "U32", "secret", "A9", "x0", strings.Repeat("z", 40)}[c.r.IntN(13)]
	}
	const letters = "abcxyzABCXYZ_0189"
	s := letters[c.r.IntN(13):][:1]
	for range c.r.IntN(6) {
		s += letters[c.r.IntN(len(letters)):][:1]
	}
	return s
}

// number makes a number.
func (c *chance) number() int {
	if c.one(4) {
		return []int{0, 1, 31, 32, 1<<32 - 1}[c.r.IntN(5)]
	}
	return int(c.r.Uint32() >> c.r.IntN(32))
}

// kind makes a type.
func (c *chance) kind() api.Type {
	t := api.Type{Elem: c.r.IntN(3), Label: c.r.IntN(2)}
	switch {
	case t.Elem == api.TU8:
		t.Len = max(1, c.number())
	case t.Elem == api.TU32 && c.one(2):
		t.Len = c.number()
	}
	return t
}

// expr makes an expression.
func (c *chance) expr() api.Expr {
	kind := 1 + c.r.IntN(api.EWord)
	c.left--
	if c.left <= 0 {
		kind = 1 + c.r.IntN(2)
	}
	return c.of(kind)
}

// of makes an expression of a kind.
func (c *chance) of(kind int) api.Expr {
	n, x := needs(kind), api.Expr{Kind: kind, Pos: c.pos()}
	for range n.args {
		x.Args = append(x.Args, c.expr())
	}
	for kind == api.ECall && c.more() {
		x.Args = append(x.Args, c.expr())
	}
	if n.named {
		x.Name = c.name()
	}
	if n.numbered {
		x.Num = c.number()
	}
	return x
}

// needed is what the document says of a kind.
type needed struct {
	args            int
	named, numbered bool
}

// needs tells what an expression of a kind has; of a call, of how many it is made is not told.
func needs(kind int) needed {
	n := needed{args: 2}
	n.named = kind == api.EName || kind == api.EIndex || kind == api.ECall
	n.numbered = kind == api.ENum || kind == api.EShl || kind == api.EShr || kind == api.ERor
	switch kind {
	case api.ENum, api.EName, api.ECall:
		n.args = 0
	case api.EIndex, api.ENot, api.ENeg, api.EFlip, api.EShl, api.EShr, api.ERor, api.EWord:
		n.args = 1
	case api.ESelect:
		n.args = 3
	}
	return n
}

// stmt makes a statement.
func (c *chance) stmt() api.Stmt {
	s := api.Stmt{Kind: 1 + c.r.IntN(api.SReturn), Pos: c.pos()}
	c.left--
	if s.Kind == api.SLet || s.Kind == api.SVar || s.Kind == api.SSet || s.Kind == api.SStore || s.Kind == api.SFor {
		s.Name = c.name()
	}
	switch s.Kind {
	case api.SVar:
		s.Type = c.kind()
		return s
	case api.SCall:
		s.Args = []api.Expr{c.of(api.ECall)}
		return s
	case api.SStore:
		s.Args = []api.Expr{c.expr()}
	case api.SFor:
		s.Most = c.number()
		s.Body = c.stmts()
	case api.SIf:
		s.Body = c.stmts()
		if s.Has = c.one(2); s.Has {
			s.Else = c.stmts()
		}
	}
	s.Args = append(s.Args, c.expr())
	return s
}

// stmts makes statements.
func (c *chance) stmts() []api.Stmt {
	var l []api.Stmt
	for c.more() {
		l = append(l, c.stmt())
	}
	return l
}

// function makes a function.
func (c *chance) function() api.Func {
	f := api.Func{Pos: c.pos(), Name: c.name(), Has: c.one(3)}
	for !c.one(3) {
		f.Params = append(f.Params, api.Param{Pos: c.pos(), Name: c.name(), Type: c.kind(), Out: c.one(2)})
	}
	if f.Has {
		f.Result = api.Type{Elem: c.r.IntN(2), Label: c.r.IntN(2)}
	}
	f.Body = c.stmts()
	if c.wild {
		f.Body = append(f.Body, c.sunk(c.r.IntN(75)))
	}
	return f
}

// sunk makes a statement that lies in nests of chance, so many or fewer.
func (c *chance) sunk(nests int) api.Stmt {
	blocks := c.r.IntN(nests + 1)
	x := c.expr()
	for range nests - blocks {
		x = wrapped(x, 1+c.r.IntN(api.EWord), c.r.IntN(3))
	}
	s := api.Stmt{Kind: api.SReturn, Args: []api.Expr{x}}
	for range blocks {
		s = enclosed(s, c.r.IntN(3))
	}
	return s
}

// wrapped tells an expression of a kind that has another one as one of those it is made of; that one itself, where there is no such place.
func wrapped(x api.Expr, kind, place int) api.Expr {
	n := needs(kind)
	if kind == api.ECall {
		n.args = 3
	}
	if place >= n.args {
		return x
	}
	out := api.Expr{Kind: kind}
	for range n.args {
		out.Args = append(out.Args, api.Expr{Kind: api.EName, Name: "w"})
	}
	out.Args[place] = x
	if n.named {
		out.Name = "g"
	}
	if n.numbered {
		out.Num = 5
	}
	return out
}

// enclosed tells a statement that has another one in its block.
func enclosed(s api.Stmt, block int) api.Stmt {
	a, l := api.Expr{Kind: api.EName, Name: "c"}, []api.Stmt{s}
	switch block {
	case 0:
		return api.Stmt{Kind: api.SFor, Name: "i", Args: []api.Expr{a}, Most: 7, Body: l}
	case 1:
		return api.Stmt{Kind: api.SIf, Args: []api.Expr{a}, Has: true, Else: l}
	}
	return api.Stmt{Kind: api.SIf, Args: []api.Expr{a}, Body: l}
}

// program makes a program.
func (c *chance) program() api.Program {
	var p api.Program
	for c.left > 0 {
		p.Funcs = append(p.Funcs, c.function())
	}
	return p
}

// programOf makes a program of chance of such a greatness, sometimes one with deep nests.
func programOf(r *rand.Rand, left int) api.Program {
	c := &chance{r: r, left: left, wild: r.IntN(4) == 0}
	return c.program()
}
