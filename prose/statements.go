package prose

import (
	"strings"

	"hauberk/api"
)

// statements writes functions and what is in them.
type statements struct{ expressions }

// function writes a function. The parentheses of its parameters are no nest.
func (w *statements) function(f api.Func) {
	w.put("fn ", f.Name, "(")
	listed(&w.sheet, f.Params, w.param)
	w.put(")")
	if f.Has {
		w.put(": ", label(f.Result), " ")
		w.elements(f.Result)
	}
	w.block(f.Body)
	w.put("\n")
}

// param writes a parameter.
func (w *statements) param(p api.Param) {
	if p.Out {
		w.put("out ")
	}
	w.declared(p.Name, p.Type)
}

// declared writes a name with its label ahead and its type behind it.
func (w *statements) declared(name string, t api.Type) {
	w.put(label(t), " ", name, ": ")
	w.elements(t)
}

// label tells the word of a type's label.
func label(t api.Type) string {
	if t.Label == api.Sec {
		return "sec"
	}
	return "pub"
}

// elements writes a type without its label.
func (w *statements) elements(t api.Type) {
	switch t.Elem {
	case api.TU32:
		w.put("u32")
	case api.TMask:
		w.put("mask")
	case api.TU8:
		w.put("u8")
	}
	if t.Len > 0 {
		w.put("[")
		w.number(t.Len)
		w.put("]")
	}
}

// block writes a block. Where a line begins, all nests that are open are blocks.
func (w *statements) block(l []api.Stmt) {
	outer := strings.Repeat(" ", w.nests)
	w.put(" ")
	w.nest("{\n", "}", func() {
		for _, s := range l {
			w.put(outer, " ")
			w.stmt(s)
			w.put("\n")
		}
		w.put(outer)
	})
}

// stmt writes a statement.
func (w *statements) stmt(s api.Stmt) {
	switch s.Kind {
	case api.SIf:
		w.branch(s)
		return
	case api.SFor:
		w.loop(s)
		return
	case api.SLet:
		w.put("let ", s.Name, " = ")
	case api.SVar:
		w.put("var ")
		w.declared(s.Name, s.Type)
	case api.SSet:
		w.put(s.Name, " = ")
	case api.SStore:
		w.put(s.Name)
		w.index(s.Args[0])
		w.put(" = ")
	case api.SReturn:
		w.put("return ")
	}
	// A statement without blocks ends with its last expression; a var has none.
	if len(s.Args) > 0 {
		w.expr(s.Args[len(s.Args)-1])
	}
	w.put(";")
}

// branch writes an if.
func (w *statements) branch(s api.Stmt) {
	w.put("if ")
	w.expr(s.Args[0])
	w.block(s.Body)
	if s.Has {
		w.put(" else")
		w.block(s.Else)
	}
}

// loop writes a for.
func (w *statements) loop(s api.Stmt) {
	w.put("for ", s.Name, " < ")
	w.expr(s.Args[0])
	w.put(" max ")
	w.number(s.Most)
	w.block(s.Body)
}
