package eval

import "hauberk/api"

// program is functions by their names.
type program map[string]api.Func

// known tells functions by their names.
func known(l []api.Func) program {
	p := program{}
	for _, f := range l {
		p[f.Name] = f
	}
	return p
}

// work is a function that is being done: what its names stand for, and its result. What a block makes is not forgotten at its end: nobody asks for it there, and where its name is made again it stands for something else.
type work struct {
	program program
	names   map[string]held
	result  int
}

// do does a function with what is handed over, and tells its result, 0, if it has none; false, if the program traps.
func (p program) do(f api.Func, handed []held) (int, bool) {
	w := &work{program: p, names: map[string]held{}}
	for k, x := range f.Params {
		w.names[x.Name] = handed[k]
	}
	ok := w.statements(f.Body)
	return w.result, ok
}

// statements does statements in order; false, if the program traps.
func (w *work) statements(l []api.Stmt) bool {
	for _, s := range l {
		if !w.statement(s) {
			return false
		}
	}
	return true
}

// statement does a statement, its expressions first; false, if the program traps.
func (w *work) statement(s api.Stmt) bool {
	of, ok := w.values(s.Args)
	if !ok {
		return false
	}
	switch s.Kind {
	case api.SLet, api.SSet:
		w.names[s.Name] = held{value: of[0]}
	case api.SVar:
		w.names[s.Name] = made(s.Type)
	case api.SStore:
		return store(w.names[s.Name].array, of[0], of[1])
	case api.SIf:
		return w.branch(s, of[0])
	case api.SFor:
		return w.loop(s, of[0])
	case api.SReturn:
		w.result = of[0]
	}
	// Of SCall all is done that there is to do.
	return true
}

// branch does one block or the other; false, if the program traps.
func (w *work) branch(s api.Stmt, condition int) bool {
	if condition != 0 {
		return w.statements(s.Body)
	}
	return w.statements(s.Else)
}

// loop does a block as often as its bound says; false, if that is too often, or the program traps.
func (w *work) loop(s api.Stmt, bound int) bool {
	if bound > s.Most {
		return false
	}
	for k := range bound {
		w.names[s.Name] = held{value: k}
		if !w.statements(s.Body) {
			return false
		}
	}
	return true
}
