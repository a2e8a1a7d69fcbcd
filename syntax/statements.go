package syntax

import "hauberk/api"

// block reads statements in braces.
func (r *reader) block() []api.Stmt {
	var l []api.Stmt
	r.open("{")
	for !r.failed() && !r.is("}") {
		l = append(l, r.stmt())
	}
	r.shut("}")
	return l
}

// stmt reads a statement.
func (r *reader) stmt() api.Stmt {
	pos := r.next().Pos
	var s api.Stmt
	switch {
	case r.may("let"):
		s = r.let()
	case r.may("var"):
		s = r.declaration()
	case r.may("if"):
		s = r.branch()
	case r.may("for"):
		s = r.loop()
	case r.may("return"):
		s = api.Stmt{Kind: api.SReturn, Args: []api.Expr{r.value()}}
	default:
		s = r.named()
	}
	s.Pos = pos
	return s
}

// let reads what stands behind that word.
func (r *reader) let() api.Stmt {
	name := r.take(api.KName).Text
	r.want("=")
	return api.Stmt{Kind: api.SLet, Name: name, Args: []api.Expr{r.value()}}
}

// value reads an expression with which a statement ends.
func (r *reader) value() api.Expr {
	x := r.expr()
	r.want(";")
	return x
}

// declaration reads what stands behind var.
func (r *reader) declaration() api.Stmt {
	name, t := r.declared()
	r.want(";")
	return api.Stmt{Kind: api.SVar, Name: name.Text, Type: t}
}

// branch reads what stands behind if.
func (r *reader) branch() api.Stmt {
	s := api.Stmt{Kind: api.SIf, Args: []api.Expr{r.expr()}}
	s.Body = r.block()
	s.Has = r.may("else")
	if s.Has {
		s.Else = r.block()
	}
	return s
}

// loop reads what stands behind for.
func (r *reader) loop() api.Stmt {
	s := api.Stmt{Kind: api.SFor, Name: r.take(api.KName).Text}
	r.want("<")
	s.Args = []api.Expr{r.expr()}
	r.want("max")
	s.Most = r.take(api.KNumber).Num
	s.Body = r.block()
	return s
}

// named reads a statement that begins with a name.
func (r *reader) named() api.Stmt {
	name := r.take(api.KName)
	if r.is("(") {
		s := api.Stmt{Kind: api.SCall, Args: []api.Expr{r.call(name)}}
		r.want(";")
		return s
	}
	s := api.Stmt{Kind: api.SSet, Name: name.Text}
	if r.is("[") {
		s.Kind = api.SStore
		s.Args = []api.Expr{r.index()}
	}
	r.want("=")
	s.Args = append(s.Args, r.value())
	return s
}
