package types

import (
	"iter"
	"math/rand/v2"
	"slices"

	"hauberk/api"
)

// chance makes programs of chance that go together, but for what they cost: it knows what is known where it is.
type chance struct {
	r     *rand.Rand
	left  int // how much more there should be
	names []entry
	funcs []api.Func
	at    int
	nests int
}

// entry is a name that is known.
type entry struct {
	name  string
	kind  api.Type
	fixed bool
}

// pool are names.
var pool = []string{"a", "b", "c", "d", "e", "f", "g", "h", "i", "k", "x", "y", "z", "main", "_", "a1"}

// one tells whether a thing comes about that has so many chances.
func (c *chance) one(chances int) bool { return c.r.IntN(chances) == 0 }

// more tells whether there should be another thing.
func (c *chance) more() bool {
	c.left--
	return c.left > 0 && c.nests < 8 && !c.one(6+6/(1+c.nests))
}

// pos tells a place that nothing else has.
func (c *chance) pos() int {
	c.at++
	return c.at*1000003%(1<<30+3) + 1
}

// fresh tells a name that is not known; none, if there is none.
func (c *chance) fresh() string {
	s := pool[c.r.IntN(len(pool))]
	if slices.ContainsFunc(c.names, func(e entry) bool { return e.name == s }) {
		return ""
	}
	return s
}

// pick tells a name that is known of which something holds.
func (c *chance) pick(holds func(entry) bool) (entry, bool) {
	var l []entry
	for _, e := range c.names {
		if holds(e) {
			l = append(l, e)
		}
	}
	if len(l) == 0 {
		return entry{}, false
	}
	return l[c.r.IntN(len(l))], true
}

// number makes a number.
func (c *chance) number() int { return int(c.r.Uint32() >> c.r.IntN(32)) }

// array makes an array's type: of few lengths, so that some are alike.
func (c *chance) array() api.Type {
	return api.Type{Elem: api.TU8 * c.r.IntN(2), Len: 1 + c.r.IntN(3), Label: c.r.IntN(2)}
}

// scalar makes a scalar's type.
func (c *chance) scalar() api.Type { return api.Type{Elem: c.r.IntN(2), Label: c.r.IntN(2)} }

// expr makes an expression of such an element that is not above a label.
func (c *chance) expr(elem, label int) api.Expr {
	c.left--
	c.nests++
	defer func() { c.nests-- }()
	for c.left > 0 && c.nests < 12 && !c.one(3) {
		kind := 1 + c.r.IntN(api.EWord)
		if c.one(6) {
			kind = api.ECall
		}
		x := c.tried(kind, elem, label)
		if x.Kind != 0 {
			return x
		}
	}
	if e, ok := c.pick(func(e entry) bool { return e.kind.Len == 0 && e.kind.Elem == elem && e.kind.Label <= label }); ok {
		return api.Expr{Kind: api.EName, Pos: c.pos(), Name: e.name}
	}
	one := api.Expr{Kind: api.ENum, Pos: c.pos(), Num: 1}
	if elem == api.TU32 {
		return one
	}
	return api.Expr{Kind: api.EGe, Pos: c.pos(), Args: []api.Expr{one, {Kind: api.ENum, Pos: c.pos(), Num: 2}}}
}

// tried makes an expression of a kind, if there is one of such an element.
func (c *chance) tried(kind, elem, label int) api.Expr {
	x := api.Expr{Kind: kind, Pos: c.pos()}
	var of []int
	numeric := true
	switch kind {
	case api.ENum:
		x.Num = c.number()
	case api.EName:
		e, ok := c.pick(func(e entry) bool { return e.kind.Len == 0 && e.kind.Elem == elem && e.kind.Label <= label })
		if !ok {
			return api.Expr{}
		}
		x.Name, numeric = e.name, elem == api.TU32
	case api.EIndex:
		e, ok := c.pick(func(e entry) bool { return e.kind.Len > 0 && e.kind.Label <= label })
		if !ok || elem != api.TU32 {
			return api.Expr{}
		}
		x.Name, x.Args = e.name, []api.Expr{c.expr(api.TU32, api.Pub)}
	case api.ECall:
		return c.called(func(f api.Func) bool { return f.Has && f.Result.Elem == elem && f.Result.Label <= label })
	case api.ENot, api.ENeg:
		of = []int{api.TU32}
	case api.EShl, api.EShr, api.ERor:
		of = []int{api.TU32}
		x.Num = c.r.IntN(32)
	case api.EFlip:
		of, numeric = []int{api.TMask}, false
	case api.EWord:
		of = []int{api.TMask}
	case api.EAnd, api.EOr, api.EXor:
		of, numeric = []int{elem, elem}, elem == api.TU32
	case api.ESelect:
		of, numeric = []int{api.TMask, elem, elem}, elem == api.TU32
	case api.EEq, api.ENe, api.ELt, api.ELe, api.EGt, api.EGe:
		of, numeric = []int{api.TU32, api.TU32}, false
	default:
		of = []int{api.TU32, api.TU32}
	}
	if numeric != (elem == api.TU32) {
		return api.Expr{}
	}
	for _, e := range of {
		x.Args = append(x.Args, c.expr(e, label))
	}
	return x
}

// called makes a call of a function of which something holds; none, if there is none.
func (c *chance) called(holds func(api.Func) bool) api.Expr {
	var l []api.Func
	for _, f := range c.funcs {
		if holds(f) {
			l = append(l, f)
		}
	}
	if len(l) == 0 {
		return api.Expr{}
	}
	f := l[c.r.IntN(len(l))]
	x := api.Expr{Kind: api.ECall, Pos: c.pos(), Name: f.Name}
	for _, p := range f.Params {
		if p.Type.Len == 0 {
			x.Args = append(x.Args, c.expr(p.Type.Elem, p.Type.Label))
			continue
		}
		e, ok := c.pick(func(e entry) bool {
			alike := e.kind.Elem == p.Type.Elem && e.kind.Len == p.Type.Len
			return alike && (p.Out && !e.fixed && e.kind.Label == p.Type.Label || !p.Out && e.kind.Label <= p.Type.Label)
		})
		if !ok {
			return api.Expr{}
		}
		x.Args = append(x.Args, api.Expr{Kind: api.EName, Pos: c.pos(), Name: e.name})
	}
	return x
}

// stmt makes a statement; one of no kind, if it came to none.
func (c *chance) stmt() api.Stmt {
	s := api.Stmt{Kind: 1 + c.r.IntN(api.SReturn), Pos: c.pos()}
	if s.Kind == api.SReturn {
		s.Kind = api.SCall
	}
	switch s.Kind {
	case api.SLet, api.SVar:
		return c.making(s)
	case api.SSet, api.SStore:
		e, ok := c.pick(func(e entry) bool { return !e.fixed && (e.kind.Len > 0) == (s.Kind == api.SStore) })
		if !ok {
			return api.Stmt{}
		}
		elem := e.kind.Elem
		if s.Name = e.name; s.Kind == api.SStore {
			elem = api.TU32
			s.Args = []api.Expr{c.expr(api.TU32, api.Pub)}
		}
		s.Args = append(s.Args, c.expr(elem, e.kind.Label))
	case api.SIf:
		s.Args = []api.Expr{c.expr(api.TMask, api.Pub)}
		s.Body = c.block("")
		if s.Has = c.one(2); s.Has {
			s.Else = c.block("")
		}
	case api.SFor:
		if s.Name = c.fresh(); s.Name == "" {
			return api.Stmt{}
		}
		s.Args = []api.Expr{c.expr(api.TU32, api.Pub)}
		s.Most = c.r.IntN(4)
		if c.one(20) {
			s.Most = c.r.IntN(65537)
		}
		s.Body = c.block(s.Name)
	case api.SCall:
		x := c.called(func(api.Func) bool { return true })
		if x.Kind == 0 {
			return api.Stmt{}
		}
		s.Args = []api.Expr{x}
	}
	return s
}

// making makes a statement that makes a name.
func (c *chance) making(s api.Stmt) api.Stmt {
	if s.Name = c.fresh(); s.Name == "" {
		return api.Stmt{}
	}
	if s.Kind == api.SVar {
		s.Type = c.scalar()
		if c.one(2) {
			s.Type = c.array()
		}
		c.names = append(c.names, entry{s.Name, s.Type, false})
		return s
	}
	t := c.scalar()
	s.Args = []api.Expr{c.expr(t.Elem, t.Label)}
	// What is made may be less secret than it may be: as far as it is known here, it is taken as secret.
	if t.Label == api.Sec && !c.secret(s.Args[0]) {
		t.Label = api.Pub
	}
	c.names = append(c.names, entry{s.Name, t, true})
	return s
}

// secret tells whether an expression's value is secret.
func (c *chance) secret(x api.Expr) bool {
	for _, f := range c.funcs {
		if x.Kind == api.ECall && f.Name == x.Name {
			return f.Result.Label == api.Sec
		}
	}
	for _, e := range c.names {
		if (x.Kind == api.EName || x.Kind == api.EIndex) && e.name == x.Name && e.kind.Label == api.Sec {
			return true
		}
	}
	return slices.ContainsFunc(x.Args, c.secret)
}

// block makes a block, in which a loop's name may be known.
func (c *chance) block(name string) []api.Stmt {
	first := len(c.names)
	if name != "" {
		c.names = append(c.names, entry{name, api.Type{}, true})
	}
	c.nests++
	l := c.stmts()
	c.nests--
	c.names = c.names[:first]
	return l
}

// stmts makes statements.
func (c *chance) stmts() []api.Stmt {
	var l []api.Stmt
	for c.more() {
		if s := c.stmt(); s.Kind != 0 {
			l = append(l, s)
		}
	}
	return l
}

// function makes a function of a name.
func (c *chance) function(name string) api.Func {
	f := api.Func{Pos: c.pos(), Name: name, Has: name != "main" && c.one(2)}
	c.names = nil
	for !c.one(5) {
		p := api.Param{Pos: c.pos(), Name: c.fresh(), Type: c.scalar()}
		if name == "main" {
			p.Type.Elem = api.TU32
		}
		if c.one(2) {
			p.Type, p.Out = c.array(), c.one(2)
		}
		if p.Name != "" {
			f.Params = append(f.Params, p)
			c.names = append(c.names, entry{p.Name, p.Type, !p.Out})
		}
	}
	f.Body = c.stmts()
	if f.Has {
		f.Result = c.scalar()
		f.Body = append(f.Body, api.Stmt{Kind: api.SReturn, Pos: c.pos(), Args: []api.Expr{c.expr(f.Result.Elem, f.Result.Label)}})
	}
	c.funcs = append(c.funcs, f)
	return f
}

// programOf makes a program of chance of such a greatness.
func programOf(r *rand.Rand, left int) api.Program {
	c := &chance{r: r}
	for range r.IntN(5) {
		c.left = left / 3
		name := pool[r.IntN(len(pool))]
		if name != "main" && !slices.ContainsFunc(c.funcs, func(f api.Func) bool { return f.Name == name }) {
			c.function(name)
		}
	}
	c.left = left
	c.function("main")
	return api.Program{Funcs: c.funcs}
}

// parts are places of a program's parts.
type parts struct {
	exprs  []*api.Expr
	stmts  []*api.Stmt
	blocks []*[]api.Stmt
	params []*api.Param
	funcs  []*api.Func
}

// partsOf tells the places of a program's parts.
func partsOf(p *api.Program) *parts {
	l := &parts{}
	for k := range p.Funcs {
		f := &p.Funcs[k]
		l.funcs = append(l.funcs, f)
		for j := range f.Params {
			l.params = append(l.params, &f.Params[j])
		}
		l.block(&f.Body)
	}
	return l
}

// block adds a block and what is in it.
func (l *parts) block(b *[]api.Stmt) {
	l.blocks = append(l.blocks, b)
	for k := range *b {
		s := &(*b)[k]
		l.stmts = append(l.stmts, s)
		l.args(s.Args)
		if s.Kind == api.SIf || s.Kind == api.SFor {
			l.block(&s.Body)
		}
		if s.Has {
			l.block(&s.Else)
		}
	}
}

// args adds expressions and what they are made of.
func (l *parts) args(x []api.Expr) {
	for k := range x {
		l.exprs = append(l.exprs, &x[k])
		l.args(x[k].Args)
	}
}

// calls goes through the places of calls.
func (l *parts) calls() iter.Seq[*api.Expr] {
	return func(yield func(*api.Expr) bool) {
		for _, x := range l.exprs {
			if x.Kind == api.ECall && !yield(x) {
				return
			}
		}
	}
}

// copied tells a program that shares nothing with another one.
func copied(p api.Program) api.Program {
	out := api.Program{Funcs: slices.Clone(p.Funcs)}
	for k := range out.Funcs {
		f := &out.Funcs[k]
		f.Params, f.Body = slices.Clone(f.Params), copiedBlock(f.Body)
	}
	return out
}

// copiedBlock does so with a block.
func copiedBlock(l []api.Stmt) []api.Stmt {
	l = slices.Clone(l)
	for k := range l {
		s := &l[k]
		s.Args, s.Body, s.Else = copiedArgs(s.Args), copiedBlock(s.Body), copiedBlock(s.Else)
	}
	return l
}

// copiedArgs does so with expressions.
func copiedArgs(l []api.Expr) []api.Expr {
	l = slices.Clone(l)
	for k := range l {
		l[k].Args = copiedArgs(l[k].Args)
	}
	return l
}

// some tells one of a list.
func some[T any](r *rand.Rand, l []T) T { return l[r.IntN(len(l))] }

// kinds are kinds of expressions that stand for each other: made of as many.
var kinds = [][]int{
	{api.ENot, api.ENeg, api.EFlip, api.EWord},
	{api.EAdd, api.ESub, api.EMul, api.EAnd, api.EOr, api.EXor, api.EEq, api.ENe, api.ELt, api.ELe, api.EGt, api.EGe, api.EHigh, api.ECarry},
	{api.EShl, api.EShr, api.ERor},
}

// spoilExpr changes an expression.
func spoilExpr(r *rand.Rand, x *api.Expr, l *parts) {
	switch k := r.IntN(6); {
	case x.Kind == api.ECall && len(x.Args) > 0 && r.IntN(6) == 0:
		x.Args = x.Args[1:]
	case x.Kind == api.ECall && r.IntN(5) == 0:
		x.Args = append(x.Args, api.Expr{Kind: api.ENum, Pos: x.Pos + 1})
	case k == 0:
		*x = api.Expr{Kind: api.EName, Pos: x.Pos, Name: some(r, pool)}
	case k == 1:
		*x = api.Expr{Kind: api.ENum, Pos: x.Pos}
	case k == 2:
		y := copiedArgs([]api.Expr{*some(r, l.exprs)})[0]
		y.Pos = x.Pos
		*x = y
	case x.Name != "" && k < 5:
		x.Name = some(r, pool)
	case x.Kind == api.EShl || x.Kind == api.EShr || x.Kind == api.ERor:
		x.Num = 30 + r.IntN(4)
	default:
		for _, group := range kinds {
			if slices.Contains(group, x.Kind) {
				x.Kind = some(r, group)
				return
			}
		}
		*x = api.Expr{Kind: api.EFlip, Pos: x.Pos + 1, Args: []api.Expr{*x}}
	}
}

// spoilType changes a type.
func spoilType(r *rand.Rand, t *api.Type) {
	switch r.IntN(8) {
	case 0, 1, 2, 3, 4:
		t.Label = 1 - t.Label
	case 5:
		t.Len = 16383 + r.IntN(3)
	case 6:
		t.Len = max(1, t.Len^1)
	default:
		t.Elem ^= 1 << r.IntN(2)
	}
}

// spoilStmt changes a statement.
func spoilStmt(r *rand.Rand, s *api.Stmt) {
	switch {
	case s.Kind == api.SVar && r.IntN(2) == 0:
		spoilType(r, &s.Type)
	case s.Kind == api.SFor && r.IntN(2) == 0:
		s.Most = 65535 + r.IntN(4)
	case s.Name != "" && r.IntN(2) == 0:
		s.Name = some(r, pool)
	case s.Kind == api.SLet || s.Kind == api.SSet || s.Kind == api.SReturn:
		if s.Kind = some(r, []int{api.SLet, api.SSet, api.SReturn}); s.Kind == api.SReturn {
			s.Name = ""
		} else if s.Name == "" {
			s.Name = some(r, pool)
		}
	case s.Kind == api.SCall:
		*s = api.Stmt{Kind: api.SLet, Pos: s.Pos, Name: some(r, pool), Args: s.Args}
	case s.Kind == api.SIf:
		s.Body, s.Else = s.Else, s.Body
		s.Has = true
	}
}

// spoilBlock takes a statement out of a block, puts another one in, or changes two.
func spoilBlock(r *rand.Rand, b *[]api.Stmt, l *parts) {
	if len(*b) == 0 || r.IntN(4) == 0 {
		s := api.Stmt{Kind: api.SReturn, Pos: 5, Args: []api.Expr{{Kind: api.ENum, Pos: 6}}}
		if len(l.stmts) > 0 && r.IntN(3) > 0 {
			s = copiedBlock([]api.Stmt{*some(r, l.stmts)})[0]
			s.Pos++
		}
		*b = slices.Insert(*b, r.IntN(len(*b)+1), s)
		return
	}
	i, k := r.IntN(len(*b)), r.IntN(len(*b))
	if r.IntN(2) == 0 {
		*b = slices.Delete(*b, i, i+1)
		return
	}
	(*b)[i], (*b)[k] = (*b)[k], (*b)[i]
}

// spoilFunc changes a function's head, or which functions there are.
func spoilFunc(r *rand.Rand, p *api.Program, f *api.Func) {
	switch r.IntN(5) {
	case 0:
		f.Name = some(r, pool)
	case 1:
		if f.Has = !f.Has; f.Has {
			f.Result.Label = r.IntN(2)
		} else {
			f.Result = api.Type{}
		}
	case 2:
		if f.Has {
			f.Result = api.Type{Elem: r.IntN(2), Label: r.IntN(2)}
		}
	case 3:
		i, k := r.IntN(len(p.Funcs)), r.IntN(len(p.Funcs))
		p.Funcs[i], p.Funcs[k] = p.Funcs[k], p.Funcs[i]
	case 4:
		if len(f.Params) > 0 {
			f.Params = f.Params[:len(f.Params)-1]
		}
	}
}

// spoiled tells a program of which a few things were changed.
func spoiled(r *rand.Rand, p api.Program) api.Program {
	p = copied(p)
	for range 1 + r.IntN(2) {
		l := partsOf(&p)
		calls := slices.Collect(l.calls())
		switch k := r.IntN(10); {
		case k == 0 && len(calls) > 0:
			spoilExpr(r, some(r, calls), l)
		case k < 4 && len(l.exprs) > 0:
			spoilExpr(r, some(r, l.exprs), l)
		case k < 6 && len(l.stmts) > 0:
			spoilStmt(r, some(r, l.stmts))
		case k < 7:
			spoilBlock(r, some(r, l.blocks), l)
		case k < 9 && len(l.params) > 0:
			x := some(r, l.params)
			switch r.IntN(6) {
			case 0:
				x.Out = !x.Out
			case 1:
				x.Name = some(r, pool)
			default:
				spoilType(r, &x.Type)
			}
		default:
			spoilFunc(r, &p, some(r, l.funcs))
		}
	}
	return p
}
