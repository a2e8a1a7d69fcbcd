package types

import (
	"math/big"

	"hauberk/api"
	"hauberk/prose"
)

// The document's words, a second time: all that is amiss in a program, in the order in which the document names it, and what it costs in numbers of any size.

// known is a name that is known, and those that were known when it was made.
type known struct {
	name  string
	kind  api.Type
	fixed bool
	elder *known
}

// find tells what a name stands for; nil, if it is not known.
func (k *known) find(name string) *known {
	for ; k != nil; k = k.elder {
		if k.name == name {
			return k
		}
	}
	return nil
}

// with tells those that are known with one more.
func (k *known) with(name string, kind api.Type, fixed bool) *known {
	return &known{name, kind, fixed, k}
}

// teller gathers errors. It never gives up: what follows the first one may be nonsense.
type teller struct {
	bads  []api.Bad
	funcs []api.Func
}

// when tells an error at a place, if something holds.
func (t *teller) when(holds bool, err api.Errno, pos int) {
	if holds {
		t.bads = append(t.bads, api.Bad{Err: err, Pos: pos})
	}
}

// worth is a value: its element and whether it is secret.
type worth struct {
	elem   int
	secret bool
}

// of tells the value of what is made of others.
func (t *teller) of(x api.Expr, k *known) worth {
	var l []worth
	out := worth{elem: api.TU32}
	numbers, masks := true, true
	for _, a := range x.Args {
		w := t.expr(a, k)
		l = append(l, w)
		numbers, masks = numbers && w.elem == api.TU32, masks && w.elem == api.TMask
		out.secret = out.secret || w.secret
	}
	switch x.Kind {
	case api.ENot, api.ENeg, api.EAdd, api.ESub, api.EMul, api.EHigh, api.ECarry:
		t.when(!numbers, api.ErrType, x.Pos)
	case api.EShl, api.EShr, api.ERor:
		t.when(!numbers, api.ErrType, x.Pos)
		t.when(x.Num > 31, api.ErrLimit, x.Pos)
	case api.EFlip:
		t.when(!masks, api.ErrType, x.Pos)
		out.elem = api.TMask
	case api.EWord:
		t.when(!masks, api.ErrType, x.Pos)
	case api.EAnd, api.EOr, api.EXor:
		t.when(l[0].elem != l[1].elem, api.ErrType, x.Pos)
		out.elem = l[0].elem
	case api.EEq, api.ENe, api.ELt, api.ELe, api.EGt, api.EGe:
		t.when(!numbers, api.ErrType, x.Pos)
		out.elem = api.TMask
	case api.ESelect:
		t.when(l[0].elem != api.TMask || l[1].elem != l[2].elem, api.ErrType, x.Pos)
		out.elem = l[1].elem
	}
	return out
}

// expr tells the value of an expression.
func (t *teller) expr(x api.Expr, k *known) worth {
	n := k.find(x.Name)
	switch x.Kind {
	case api.EName:
		if t.when(n == nil, api.ErrName, x.Pos); n == nil {
			return worth{}
		}
		t.when(n.kind.Len != 0, api.ErrType, x.Pos)
		return worth{n.kind.Elem, n.kind.Label == api.Sec}
	case api.EIndex:
		t.index(x.Args[0], k)
		if t.when(n == nil, api.ErrName, x.Pos); n == nil {
			return worth{}
		}
		t.when(n.kind.Len == 0, api.ErrType, x.Pos)
		return worth{api.TU32, n.kind.Label == api.Sec}
	case api.ECall:
		f := t.call(x, k)
		t.when(!f.Has, api.ErrType, x.Pos)
		return worth{f.Result.Elem, f.Result.Label == api.Sec}
	}
	return t.of(x, k)
}

// index looks at an index.
func (t *teller) index(x api.Expr, k *known) {
	w := t.expr(x, k)
	t.when(w.elem != api.TU32, api.ErrType, x.Pos)
	t.when(w.secret, api.ErrFlow, x.Pos)
}

// call tells the function that is called.
func (t *teller) call(x api.Expr, k *known) api.Func {
	for _, f := range t.funcs {
		if f.Name != x.Name {
			continue
		}
		t.when(len(f.Params) != len(x.Args), api.ErrArity, x.Pos)
		for i := range min(len(f.Params), len(x.Args)) {
			t.handed(f.Params[i], x.Args[i], k)
		}
		return f
	}
	t.when(true, api.ErrName, x.Pos)
	return api.Func{}
}

// handed looks at what is handed over.
func (t *teller) handed(p api.Param, x api.Expr, k *known) {
	if p.Type.Len == 0 {
		w := t.expr(x, k)
		t.when(w.elem != p.Type.Elem, api.ErrType, x.Pos)
		t.when(w.secret && p.Type.Label == api.Pub, api.ErrFlow, x.Pos)
		return
	}
	t.when(x.Kind != api.EName, api.ErrType, x.Pos)
	n := k.find(x.Name)
	if t.when(n == nil, api.ErrName, x.Pos); n == nil {
		return
	}
	unlike, secret := n.kind.Label != p.Type.Label, n.kind.Label == api.Sec
	like := *n
	like.kind.Label = p.Type.Label
	t.when(like.kind != p.Type || p.Out && n.fixed, api.ErrType, x.Pos)
	t.when(unlike && (secret || p.Out), api.ErrFlow, x.Pos)
}

// stmts looks at statements. Of those of a function itself the last one may be its result.
func (t *teller) stmts(l []api.Stmt, k *known, f *api.Func) {
	for i, s := range l {
		k = t.stmt(s, k, f != nil && f.Has && i == len(l)-1, f)
	}
}

// stmt looks at a statement and tells what is known behind it.
func (t *teller) stmt(s api.Stmt, k *known, last bool, f *api.Func) *known {
	var w worth
	switch s.Kind {
	case api.SStore:
		t.index(s.Args[0], k)
		w = t.expr(s.Args[1], k)
	case api.SLet, api.SSet, api.SIf, api.SFor, api.SReturn:
		w = t.expr(s.Args[0], k)
	}
	n := k.find(s.Name)
	switch s.Kind {
	case api.SLet:
		t.when(n != nil, api.ErrTwice, s.Pos)
		kind := api.Type{Elem: w.elem}
		if w.secret {
			kind.Label = api.Sec
		}
		return k.with(s.Name, kind, true)
	case api.SVar:
		t.when(n != nil, api.ErrTwice, s.Pos)
		t.when(s.Type.Len > 16384, api.ErrLimit, s.Pos)
		return k.with(s.Name, s.Type, false)
	case api.SSet, api.SStore:
		if t.when(n == nil, api.ErrName, s.Pos); n == nil {
			break
		}
		if s.Kind == api.SSet {
			t.when(n.kind.Len != 0 || n.fixed || n.kind.Elem != w.elem, api.ErrType, s.Pos)
		} else {
			t.when(n.kind.Len == 0 || n.fixed || w.elem != api.TU32, api.ErrType, s.Pos)
		}
		t.when(w.secret && n.kind.Label == api.Pub, api.ErrFlow, s.Pos)
	case api.SIf:
		t.when(w.elem != api.TMask, api.ErrType, s.Args[0].Pos)
		t.when(w.secret, api.ErrFlow, s.Args[0].Pos)
		t.stmts(s.Body, k, nil)
		t.stmts(s.Else, k, nil)
	case api.SFor:
		t.when(w.elem != api.TU32, api.ErrType, s.Args[0].Pos)
		t.when(w.secret, api.ErrFlow, s.Args[0].Pos)
		t.when(n != nil, api.ErrTwice, s.Pos)
		t.when(s.Most > 65536, api.ErrLimit, s.Pos)
		t.stmts(s.Body, k.with(s.Name, api.Type{}, true), nil)
	case api.SCall:
		t.call(s.Args[0], k)
	case api.SReturn:
		t.when(!last || w.elem != f.Result.Elem, api.ErrType, s.Pos)
		t.when(last && w.secret && f.Result.Label == api.Pub, api.ErrFlow, s.Pos)
	}
	return k
}

// function looks at a function.
func (t *teller) function(f api.Func) {
	for _, g := range t.funcs {
		t.when(g.Name == f.Name, api.ErrTwice, f.Pos)
	}
	var k *known
	for _, p := range f.Params {
		t.when(k.find(p.Name) != nil, api.ErrTwice, p.Pos)
		t.when(p.Out && p.Type.Len == 0, api.ErrType, p.Pos)
		t.when(p.Type.Len > 16384, api.ErrLimit, p.Pos)
		k = k.with(p.Name, p.Type, p.Type.Len == 0 || !p.Out)
	}
	t.stmts(f.Body, k, &f)
	t.when(f.Has && (len(f.Body) == 0 || f.Body[len(f.Body)-1].Kind != api.SReturn), api.ErrType, f.Pos)
	t.funcs = append(t.funcs, f)
}

// begun looks at what a program begins with.
func (t *teller) begun(l []api.Func) {
	t.when(len(l) == 0 || l[len(l)-1].Name != "main", api.ErrMain, 0)
	if len(l) == 0 {
		return
	}
	f := l[len(l)-1]
	t.when(f.Has, api.ErrMain, f.Pos)
	in, out := 0, 0
	for _, p := range f.Params {
		t.when(p.Type.Elem == api.TMask, api.ErrMain, p.Pos)
		n := 4 * max(p.Type.Len, 1)
		if p.Type.Elem == api.TU8 {
			n = (p.Type.Len + 3) &^ 3
		}
		if p.Out {
			out += n
		} else {
			in += n
		}
	}
	t.when(in > 65536 || out > 65536, api.ErrLimit, f.Pos)
}

// prices tells what each function costs.
type prices map[string]*big.Int

// expr tells what an expression costs.
func (p prices) expr(x api.Expr) *big.Int {
	n := big.NewInt(1)
	for _, a := range x.Args {
		n.Add(n, p.expr(a))
	}
	if x.Kind == api.ECall {
		n.Add(n, p[x.Name])
	}
	return n
}

// stmts tells what statements cost.
func (p prices) stmts(l []api.Stmt) *big.Int {
	n := new(big.Int)
	for _, s := range l {
		n.Add(n, big.NewInt(1))
		for _, x := range s.Args {
			n.Add(n, p.expr(x))
		}
		switch s.Kind {
		case api.SVar:
			n.Add(n, big.NewInt(int64(s.Type.Len)))
		case api.SFor:
			once := p.stmts(s.Body)
			once.Add(once, big.NewInt(1))
			n.Add(n, once.Mul(once, big.NewInt(int64(s.Most)+1)))
		default:
			n.Add(n, p.stmts(s.Body))
			n.Add(n, p.stmts(s.Else))
		}
	}
	return n
}

// price tells what a program costs that goes together.
func price(l []api.Func) *big.Int {
	p := prices{}
	n := new(big.Int)
	for _, f := range l {
		n = p.stmts(f.Body)
		n.Add(n, big.NewInt(1))
		p[f.Name] = n
	}
	return n
}

// wanted tells what Check and Cost should tell of a program.
func wanted(p api.Program) (api.Bad, int) {
	if _, err := prose.Program(p); err != api.OK {
		return api.Bad{Err: err}, 0
	}
	t := &teller{}
	for _, f := range p.Funcs {
		t.function(f)
	}
	t.begun(p.Funcs)
	if len(t.bads) > 0 {
		return t.bads[0], 0
	}
	n := price(p.Funcs)
	if n.Cmp(big.NewInt(65536)) > 0 {
		return api.Bad{Err: api.ErrLimit, Pos: p.Funcs[len(p.Funcs)-1].Pos}, 65537
	}
	return api.Bad{}, int(n.Int64())
}
