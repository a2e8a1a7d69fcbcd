package types

import "hauberk/api"

// statements tells what is amiss in the first statement in which something is.
func (c *checker) statements(l []api.Stmt) api.Bad {
	for _, s := range l {
		if bad := c.statement(s); bad.Err != api.OK {
			return bad
		}
	}
	return api.Bad{}
}

// block tells what is amiss in a block, behind which what it made is not known.
func (c *checker) block(l []api.Stmt) api.Bad {
	first := len(c.made)
	bad := c.statements(l)
	c.leave(first)
	return bad
}

// statement tells what is amiss in a statement that is not a function's end.
func (c *checker) statement(s api.Stmt) api.Bad {
	switch s.Kind {
	case api.SLet:
		return c.let(s)
	case api.SVar:
		return c.room(s)
	case api.SSet:
		return c.set(s)
	case api.SStore:
		return c.store(s)
	case api.SIf:
		return c.branch(s)
	case api.SFor:
		return c.loop(s)
	case api.SCall:
		_, bad := c.call(s.Args[0])
		return bad
	}
	if _, bad := c.value(s.Args[0]); bad.Err != api.OK {
		return bad
	}
	return amiss(api.ErrType, s.Pos)
}

// let makes a name for a value.
func (c *checker) let(s api.Stmt) api.Bad {
	v, bad := c.value(s.Args[0])
	switch {
	case bad.Err != api.OK:
		return bad
	case c.known(s.Name):
		return amiss(api.ErrTwice, s.Pos)
	}
	c.enter(s.Name, api.Type{Elem: v.elem, Label: v.label}, true)
	return api.Bad{}
}

// room makes a name for what may be set or stored.
func (c *checker) room(s api.Stmt) api.Bad {
	switch {
	case c.known(s.Name):
		return amiss(api.ErrTwice, s.Pos)
	case s.Type.Len > Array:
		return amiss(api.ErrLimit, s.Pos)
	}
	c.enter(s.Name, s.Type, false)
	return api.Bad{}
}

// set tells what is amiss where a scalar is set.
func (c *checker) set(s api.Stmt) api.Bad {
	v, bad := c.value(s.Args[0])
	if bad.Err != api.OK {
		return bad
	}
	h, ok := c.names[s.Name]
	switch {
	case !ok:
		return amiss(api.ErrName, s.Pos)
	case h.kind.Len > 0, h.fixed, h.kind.Elem != v.elem:
		return amiss(api.ErrType, s.Pos)
	case leaks(v.label, h.kind.Label):
		return amiss(api.ErrFlow, s.Pos)
	}
	return api.Bad{}
}

// store tells what is amiss where an element is stored.
func (c *checker) store(s api.Stmt) api.Bad {
	if bad := c.open(s.Args[0], api.TU32); bad.Err != api.OK {
		return bad
	}
	v, bad := c.value(s.Args[1])
	if bad.Err != api.OK {
		return bad
	}
	h, ok := c.names[s.Name]
	switch {
	case !ok:
		return amiss(api.ErrName, s.Pos)
	case h.kind.Len == 0, h.fixed, v.elem != api.TU32:
		return amiss(api.ErrType, s.Pos)
	case leaks(v.label, h.kind.Label):
		return amiss(api.ErrFlow, s.Pos)
	}
	return api.Bad{}
}

// branch tells what is amiss in a condition or the blocks that hang on it.
func (c *checker) branch(s api.Stmt) api.Bad {
	if bad := c.open(s.Args[0], api.TMask); bad.Err != api.OK {
		return bad
	}
	if bad := c.block(s.Body); bad.Err != api.OK {
		return bad
	}
	return c.block(s.Else)
}

// loop tells what is amiss in a loop: the bound does not know the name, the block does.
func (c *checker) loop(s api.Stmt) api.Bad {
	bad := c.open(s.Args[0], api.TU32)
	switch {
	case bad.Err != api.OK:
		return bad
	case c.known(s.Name):
		return amiss(api.ErrTwice, s.Pos)
	case s.Most > Loop:
		return amiss(api.ErrLimit, s.Pos)
	}
	first := len(c.made)
	c.enter(s.Name, api.Type{Elem: api.TU32, Label: api.Pub}, true)
	bad = c.statements(s.Body)
	c.leave(first)
	return bad
}
