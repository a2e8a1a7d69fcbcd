package eval

import (
	"hauberk/api"
	"hauberk/word"
)

// value tells an expression's value; false, if the program traps.
func (w *work) value(x api.Expr) (int, bool) {
	switch x.Kind {
	case api.ENum:
		return x.Num, true
	case api.EName:
		return w.names[x.Name].value, true
	case api.ECall:
		return w.call(x)
	}
	of, ok := w.values(x.Args)
	switch {
	case !ok:
		return 0, false
	case x.Kind == api.EIndex:
		return read(w.names[x.Name].array, of[0])
	}
	return reckoned(x, of), true
}

// values tells the values of expressions, the first one reckoned first; false, if the program traps.
func (w *work) values(l []api.Expr) ([]int, bool) {
	var all []int
	for _, x := range l {
		v, ok := w.value(x)
		if !ok {
			return nil, false
		}
		all = append(all, v)
	}
	return all, true
}

// call does a function that is called, and tells its result; false, if the program traps.
func (w *work) call(x api.Expr) (int, bool) {
	f := w.program[x.Name]
	var handed []held
	for k, p := range f.Params {
		h, ok := w.hand(x.Args[k], p)
		if !ok {
			return 0, false
		}
		handed = append(handed, h)
	}
	return w.program.do(f, handed)
}

// hand tells what is handed over for a parameter: an array is itself; false, if the program traps.
func (w *work) hand(x api.Expr, p api.Param) (held, bool) {
	if p.Type.Len > 0 {
		return w.names[x.Name], true
	}
	v, ok := w.value(x)
	return held{value: v}, ok
}

// reckoned tells what an expression makes of values.
func reckoned(x api.Expr, of []int) int {
	switch x.Kind {
	case api.ENot, api.EFlip:
		return word.Not(of[0])
	case api.ENeg:
		return word.Sub(0, of[0])
	case api.EShl:
		return word.Shl(of[0], x.Num)
	case api.EShr:
		return word.Shr(of[0], x.Num)
	case api.ERor:
		return word.Ror(of[0], x.Num)
	case api.ESelect:
		return word.Select(of[0], of[1], of[2])
	case api.EWord:
		return of[0]
	}
	return between(x.Kind, of[0], of[1])
}

// between tells what a kind makes of two words.
func between(kind, a, b int) int {
	switch kind {
	case api.EAdd:
		return word.Add(a, b)
	case api.ESub:
		return word.Sub(a, b)
	case api.EMul:
		return word.Mul(a, b)
	case api.EAnd:
		return word.And(a, b)
	case api.EOr:
		return word.Or(a, b)
	case api.EXor:
		return word.Xor(a, b)
	case api.EHigh:
		return word.High(a, b)
	case api.ECarry:
		return word.Carry(a, b)
	}
	return compared(kind, a, b)
}

// compared tells whether a comparison holds, as a mask.
func compared(kind, a, b int) int {
	switch kind {
	case api.EEq:
		return word.Same(a, b)
	case api.ENe:
		return word.Not(word.Same(a, b))
	case api.ELt:
		return word.Less(a, b)
	case api.EGe:
		return word.Not(word.Less(a, b))
	case api.EGt:
		return word.Less(b, a)
	}
	// No other kind but ELe is left.
	return word.Not(word.Less(b, a))
}
