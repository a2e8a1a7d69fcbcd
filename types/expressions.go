package types

import "hauberk/api"

// value is what an expression's value is made of, and its label.
type value struct{ elem, label int }

// leaks tells whether what is secret would be where all is public.
func leaks(from, to int) bool { return from == api.Sec && to == api.Pub }

// value tells an expression's value, or what is amiss in it.
func (c *checker) value(x api.Expr) (value, api.Bad) {
	switch x.Kind {
	case api.EName:
		return c.scalar(x)
	case api.EIndex:
		return c.element(x)
	case api.ECall:
		return c.result(x)
	}
	return c.reckoned(x)
}

// open tells what is amiss in an expression whose value must be public, and made of such an element.
func (c *checker) open(x api.Expr, elem int) api.Bad {
	v, bad := c.value(x)
	switch {
	case bad.Err != api.OK:
		return bad
	case v.elem != elem:
		return amiss(api.ErrType, x.Pos)
	case v.label == api.Sec:
		return amiss(api.ErrFlow, x.Pos)
	}
	return api.Bad{}
}

// scalar tells the value for which a name stands.
func (c *checker) scalar(x api.Expr) (value, api.Bad) {
	h, ok := c.names[x.Name]
	switch {
	case !ok:
		return value{}, amiss(api.ErrName, x.Pos)
	case h.kind.Len > 0:
		return value{}, amiss(api.ErrType, x.Pos)
	}
	return value{h.kind.Elem, h.kind.Label}, api.Bad{}
}

// element tells the value of an array's element: one of a byte is a number as well.
func (c *checker) element(x api.Expr) (value, api.Bad) {
	if bad := c.open(x.Args[0], api.TU32); bad.Err != api.OK {
		return value{}, bad
	}
	h, ok := c.names[x.Name]
	switch {
	case !ok:
		return value{}, amiss(api.ErrName, x.Pos)
	case h.kind.Len == 0:
		return value{}, amiss(api.ErrType, x.Pos)
	}
	return value{api.TU32, h.kind.Label}, api.Bad{}
}

// reckoned tells the value of what is made of other values alone.
func (c *checker) reckoned(x api.Expr) (value, api.Bad) {
	var elems []int
	out := value{label: api.Pub}
	for _, a := range x.Args {
		v, bad := c.value(a)
		if bad.Err != api.OK {
			return value{}, bad
		}
		elems = append(elems, v.elem)
		if v.label == api.Sec {
			out.label = api.Sec
		}
	}
	var ok bool
	if out.elem, ok = makes(x.Kind, elems); !ok {
		return value{}, amiss(api.ErrType, x.Pos)
	}
	if x.Kind != api.ENum && x.Num > 31 {
		return value{}, amiss(api.ErrLimit, x.Pos)
	}
	return out, api.Bad{}
}

// makes tells which element a kind makes of others, and whether it does so.
func makes(kind int, of []int) (int, bool) {
	switch kind {
	case api.EFlip:
		return api.TMask, every(of, api.TMask)
	case api.EWord:
		return api.TU32, every(of, api.TMask)
	case api.EEq, api.ENe, api.ELt, api.ELe, api.EGt, api.EGe:
		return api.TMask, every(of, api.TU32)
	case api.EAnd, api.EOr, api.EXor:
		return of[0], of[0] == of[1]
	case api.ESelect:
		return of[1], of[0] == api.TMask && of[1] == of[2]
	}
	return api.TU32, every(of, api.TU32)
}

// every tells whether all elements are such ones.
func every(l []int, elem int) bool {
	for _, x := range l {
		if x != elem {
			return false
		}
	}
	return true
}
