package types

import "hauberk/api"

// meter knows what functions cost.
type meter struct{ costs map[string]int }

// cost tells what the last function costs, at most one more than a program may.
func cost(l []api.Func) int {
	m, n := meter{map[string]int{}}, 0
	for _, f := range l {
		n = capped(1 + m.statements(f.Body))
		m.costs[f.Name] = n
	}
	return n
}

// capped tells a cost, or what stands for all that are too great, so that numbers stay small.
func capped(n int) int { return min(n, Steps+1) }

// statements tells what statements cost.
func (m meter) statements(l []api.Stmt) int {
	n := 0
	for _, s := range l {
		n += m.statement(s)
	}
	return capped(n)
}

// statement tells what a statement costs.
func (m meter) statement(s api.Stmt) int {
	n := 1 + s.Type.Len + m.expressions(s.Args)
	if s.Kind == api.SFor {
		return capped(n + (s.Most+1)*(1+m.statements(s.Body)))
	}
	return capped(n + m.statements(s.Body) + m.statements(s.Else))
}

// expressions tells what expressions cost.
func (m meter) expressions(l []api.Expr) int {
	n := 0
	for _, x := range l {
		n += m.expression(x)
	}
	return capped(n)
}

// expression tells what an expression costs, with what a function does that it calls.
func (m meter) expression(x api.Expr) int {
	n := 1 + m.expressions(x.Args)
	if x.Kind == api.ECall {
		n += m.costs[x.Name]
	}
	return capped(n)
}
