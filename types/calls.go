package types

import "hauberk/api"

// result tells the value of a call that must have one.
func (c *checker) result(x api.Expr) (value, api.Bad) {
	f, bad := c.call(x)
	switch {
	case bad.Err != api.OK:
		return value{}, bad
	case !f.Has:
		return value{}, amiss(api.ErrType, x.Pos)
	}
	return value{f.Result.Elem, f.Result.Label}, api.Bad{}
}

// call tells the function that is called, or what is amiss in what is handed over.
func (c *checker) call(x api.Expr) (api.Func, api.Bad) {
	f, ok := c.funcs[x.Name]
	switch {
	case !ok:
		return api.Func{}, amiss(api.ErrName, x.Pos)
	case len(f.Params) != len(x.Args):
		return api.Func{}, amiss(api.ErrArity, x.Pos)
	}
	for k, p := range f.Params {
		if bad := c.hand(x.Args[k], p); bad.Err != api.OK {
			return api.Func{}, bad
		}
	}
	return f, api.Bad{}
}

// hand tells what is amiss where something is handed over for a parameter.
func (c *checker) hand(x api.Expr, p api.Param) api.Bad {
	if p.Type.Len > 0 {
		return c.handArray(x, p)
	}
	v, bad := c.value(x)
	switch {
	case bad.Err != api.OK:
		return bad
	case v.elem != p.Type.Elem:
		return amiss(api.ErrType, x.Pos)
	case leaks(v.label, p.Type.Label):
		return amiss(api.ErrFlow, x.Pos)
	}
	return api.Bad{}
}

// handArray tells what is amiss where an array is handed over. What goes out is written and read under both labels: they must be alike.
func (c *checker) handArray(x api.Expr, p api.Param) api.Bad {
	if x.Kind != api.EName {
		return amiss(api.ErrType, x.Pos)
	}
	h, ok := c.names[x.Name]
	switch {
	case !ok:
		return amiss(api.ErrName, x.Pos)
	case h.kind.Elem != p.Type.Elem, h.kind.Len != p.Type.Len, p.Out && h.fixed:
		return amiss(api.ErrType, x.Pos)
	case leaks(h.kind.Label, p.Type.Label), p.Out && h.kind.Label != p.Type.Label:
		return amiss(api.ErrFlow, x.Pos)
	}
	return api.Bad{}
}
