package types

import "hauberk/api"

// function tells what is amiss in a function, and makes it known to those behind it.
func (c *checker) function(f api.Func) api.Bad {
	if _, ok := c.funcs[f.Name]; ok {
		return amiss(api.ErrTwice, f.Pos)
	}
	for _, p := range f.Params {
		if bad := c.param(p); bad.Err != api.OK {
			return bad
		}
	}
	if bad := c.body(f); bad.Err != api.OK {
		return bad
	}
	c.leave(0)
	c.funcs[f.Name] = f
	return api.Bad{}
}

// param tells what is amiss in a parameter, and makes its name.
func (c *checker) param(p api.Param) api.Bad {
	array := p.Type.Len > 0
	switch {
	case c.known(p.Name):
		return amiss(api.ErrTwice, p.Pos)
	case p.Out && !array:
		return amiss(api.ErrType, p.Pos)
	case p.Type.Len > Array:
		return amiss(api.ErrLimit, p.Pos)
	}
	c.enter(p.Name, p.Type, !p.Out)
	return api.Bad{}
}

// body tells what is amiss in a function's statements.
func (c *checker) body(f api.Func) api.Bad {
	l := f.Body
	last := len(l) - 1
	if !f.Has {
		return c.statements(l)
	}
	if last < 0 || l[last].Kind != api.SReturn {
		if bad := c.statements(l); bad.Err != api.OK {
			return bad
		}
		return amiss(api.ErrType, f.Pos)
	}
	if bad := c.statements(l[:last]); bad.Err != api.OK {
		return bad
	}
	return c.answer(l[last], f.Result)
}

// answer tells what is amiss in the statement with which a function of a result ends.
func (c *checker) answer(s api.Stmt, result api.Type) api.Bad {
	v, bad := c.value(s.Args[0])
	switch {
	case bad.Err != api.OK:
		return bad
	case v.elem != result.Elem:
		return amiss(api.ErrType, s.Pos)
	case leaks(v.label, result.Label):
		return amiss(api.ErrFlow, s.Pos)
	}
	return api.Bad{}
}

// mainOf tells a program's last function; none, if it has none.
func mainOf(p api.Program) api.Func {
	if len(p.Funcs) == 0 {
		return api.Func{}
	}
	return p.Funcs[len(p.Funcs)-1]
}

// mainBad tells why a program can not begin with its last function.
func mainBad(p api.Program) api.Bad {
	f := mainOf(p)
	if f.Name != "main" {
		return amiss(api.ErrMain, 0)
	}
	if f.Has {
		return amiss(api.ErrMain, f.Pos)
	}
	for _, x := range f.Params {
		if x.Type.Elem == api.TMask {
			return amiss(api.ErrMain, x.Pos)
		}
	}
	if bytes(f.Params, false) > Bytes || bytes(f.Params, true) > Bytes {
		return amiss(api.ErrLimit, f.Pos)
	}
	return api.Bad{}
}

// bytes tells how many bytes the parameters have that go out, or those that do not.
func bytes(l []api.Param, out bool) int {
	n := 0
	for _, p := range l {
		if p.Out == out {
			n += size(p.Type)
		}
	}
	return n
}

// size tells how many bytes a parameter has, made up to whole words.
func size(t api.Type) int {
	switch {
	case t.Len == 0:
		return 4
	case t.Elem == api.TU8:
		return (t.Len + 3) / 4 * 4
	}
	return 4 * t.Len
}
