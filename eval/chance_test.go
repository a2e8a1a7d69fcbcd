package eval

import (
	"math/rand/v2"
	"slices"
	"strings"
	"testing"

	"hauberk/api"
	"hauberk/prose"
	"hauberk/shape"
	"hauberk/types"
)

// chance makes programs of chance that go together, but for what they cost. It knows what is known where it is.
type chance struct {
	r     *rand.Rand
	left  int // how many more expressions there should be
	nests int
	wild  int // of how many indices and bounds one may be anything
	names []entry
	funcs []api.Func
}

// entry is a name that is known. What is fixed is not set or stored; a loop's name is below a number, else that is 0.
type entry struct {
	name  string
	kind  api.Type
	fixed bool
	below int
}

// pool are names: few, so that functions have the same ones.
var pool = []string{"a", "b", "c", "d", "e", "f", "g", "h", "i", "j", "k", "x", "y", "z"}

// one tells whether a thing comes about that has so many chances.
func (c *chance) one(chances int) bool { return c.r.IntN(chances) == 0 }

// fresh tells a name that is not known; none, if it came to none.
func (c *chance) fresh() string {
	s := pool[c.r.IntN(len(pool))]
	if slices.ContainsFunc(c.names, func(e entry) bool { return e.name == s }) {
		return ""
	}
	return s
}

// pick tells a name that is known of which something holds.
func (c *chance) pick(holds func(entry) bool) (entry, bool) {
	var l []entry
	for _, e := range c.names {
		if holds(e) {
			l = append(l, e)
		}
	}
	if len(l) == 0 {
		return entry{}, false
	}
	return l[c.r.IntN(len(l))], true
}

// scalar makes a scalar's type.
func (c *chance) scalar() api.Type { return api.Type{Elem: c.r.IntN(2), Label: c.r.IntN(2)} }

// array makes an array's type: of few lengths, so that some are alike.
func (c *chance) array() api.Type {
	return api.Type{Elem: api.TU8 * c.r.IntN(2), Len: []int{1, 2, 4, 5}[c.r.IntN(4)], Label: c.r.IntN(2)}
}

// numeral makes a number: a small one, a great one, or one at a bound.
func (c *chance) numeral() api.Expr {
	n := []int{0, 1, 2, 3, 5, 255, 256, 1 << 31, 1<<31 - 1, 1<<32 - 1, 1<<32 - 2}[c.r.IntN(11)]
	if c.one(2) {
		n = int(c.r.Uint32() >> c.r.IntN(32))
	}
	return api.Expr{Kind: api.ENum, Num: n}
}

// named makes a name's value of such an element that is not above a label; none, if there is none.
func (c *chance) named(elem, label int) api.Expr {
	e, ok := c.pick(func(e entry) bool { return e.kind.Len == 0 && e.kind.Elem == elem && e.kind.Label <= label })
	if !ok {
		return api.Expr{}
	}
	return api.Expr{Kind: api.EName, Name: e.name}
}

// plain makes an expression of such an element that has no more than it must.
func (c *chance) plain(elem, label int) api.Expr {
	if x := c.named(elem, label); x.Kind != 0 && !c.one(4) {
		return x
	}
	if elem == api.TU32 {
		return c.numeral()
	}
	return api.Expr{Kind: api.ELt + c.r.IntN(4), Args: []api.Expr{c.numeral(), c.numeral()}}
}

// expr makes an expression of such an element that is not above a label.
func (c *chance) expr(elem, label int) api.Expr {
	c.left--
	c.nests++
	defer func() { c.nests-- }()
	for c.left > 0 && c.nests < 9 && !c.one(3) {
		kind := 1 + c.r.IntN(api.EWord)
		if c.one(5) {
			kind = []int{api.ECall, api.EIndex}[c.r.IntN(2)]
		}
		if x := c.tried(kind, elem, label); x.Kind != 0 {
			return x
		}
	}
	return c.plain(elem, label)
}

// tried makes an expression of a kind; none, if there is none of such an element.
func (c *chance) tried(kind, elem, label int) api.Expr {
	x := api.Expr{Kind: kind}
	of := []int{api.TU32, api.TU32}
	makes := api.TU32
	switch kind {
	case api.ENum:
		x, of = c.numeral(), nil
	case api.EName:
		return c.named(elem, label)
	case api.EIndex:
		e, ok := c.pick(func(e entry) bool { return e.kind.Len > 0 && e.kind.Label <= label })
		if !ok || elem != api.TU32 {
			return api.Expr{}
		}
		return api.Expr{Kind: kind, Name: e.name, Args: []api.Expr{c.index(e.kind.Len)}}
	case api.ECall:
		return c.called(func(f api.Func) bool { return f.Has && f.Result.Elem == elem && f.Result.Label <= label })
	case api.ENot, api.ENeg:
		of = of[:1]
	case api.EShl, api.EShr, api.ERor:
		of, x.Num = of[:1], c.r.IntN(32)
	case api.EFlip:
		of, makes = []int{api.TMask}, api.TMask
	case api.EWord:
		of = []int{api.TMask}
	case api.EAnd, api.EOr, api.EXor:
		of, makes = []int{elem, elem}, elem
	case api.ESelect:
		of, makes = []int{api.TMask, elem, elem}, elem
	case api.EEq, api.ENe, api.ELt, api.ELe, api.EGt, api.EGe:
		makes = api.TMask
	}
	if makes != elem {
		return api.Expr{}
	}
	for _, e := range of {
		x.Args = append(x.Args, c.expr(e, label))
	}
	return x
}

// index makes an index of so many elements: most of them are less.
func (c *chance) index(n int) api.Expr {
	if c.one(c.wild) {
		return c.expr(api.TU32, api.Pub)
	}
	switch c.r.IntN(3) {
	case 0:
		below := func(e entry) bool { return e.below > 0 && e.below <= n }
		if e, ok := c.pick(below); ok {
			return api.Expr{Kind: api.EName, Name: e.name}
		}
	case 1:
		low := 1
		for 2*low <= n {
			low *= 2
		}
		return api.Expr{Kind: api.EAnd, Args: []api.Expr{c.expr(api.TU32, api.Pub), {Kind: api.ENum, Num: low - 1}}}
	}
	return api.Expr{Kind: api.ENum, Num: c.r.IntN(n)}
}

// called makes a call of a function of which something holds; none, if there is none.
func (c *chance) called(holds func(api.Func) bool) api.Expr {
	var l []api.Func
	for _, f := range c.funcs {
		if holds(f) {
			l = append(l, f)
		}
	}
	if len(l) == 0 {
		return api.Expr{}
	}
	f := l[c.r.IntN(len(l))]
	x := api.Expr{Kind: api.ECall, Name: f.Name}
	for _, p := range f.Params {
		if p.Type.Len == 0 {
			x.Args = append(x.Args, c.expr(p.Type.Elem, p.Type.Label))
			continue
		}
		e, ok := c.pick(func(e entry) bool {
			alike := e.kind.Elem == p.Type.Elem && e.kind.Len == p.Type.Len
			return alike && (p.Out && !e.fixed && e.kind.Label == p.Type.Label || !p.Out && e.kind.Label <= p.Type.Label)
		})
		if !ok {
			return api.Expr{}
		}
		x.Args = append(x.Args, api.Expr{Kind: api.EName, Name: e.name})
	}
	return x
}

// stmt makes a statement; none, if it came to none.
func (c *chance) stmt() api.Stmt {
	s := api.Stmt{Kind: 1 + c.r.IntN(api.SCall)}
	if c.one(4) {
		s.Kind = api.SStore
	}
	switch s.Kind {
	case api.SLet, api.SVar:
		return c.making(s)
	case api.SSet, api.SStore:
		return c.setting(s)
	case api.SIf:
		s.Args = []api.Expr{c.expr(api.TMask, api.Pub)}
		s.Body = c.block()
		if s.Has = c.one(2); s.Has {
			s.Else = c.block()
		}
	case api.SFor:
		return c.loop(s)
	case api.SCall:
		x := c.called(func(api.Func) bool { return true })
		if x.Kind == 0 {
			return api.Stmt{}
		}
		s.Args = []api.Expr{x}
	}
	return s
}

// making makes a statement that makes a name.
func (c *chance) making(s api.Stmt) api.Stmt {
	if s.Name = c.fresh(); s.Name == "" {
		return api.Stmt{}
	}
	if s.Kind == api.SVar {
		s.Type = c.scalar()
		if c.one(2) {
			s.Type = c.array()
		}
		c.names = append(c.names, entry{name: s.Name, kind: s.Type})
		return s
	}
	t := c.scalar()
	x := c.expr(t.Elem, t.Label)
	t.Label = c.label(x)
	s.Args = []api.Expr{x}
	c.names = append(c.names, entry{name: s.Name, kind: t, fixed: true})
	return s
}

// label tells the label of an expression's value.
func (c *chance) label(x api.Expr) int {
	for _, f := range c.funcs {
		if x.Kind == api.ECall && f.Name == x.Name {
			return f.Result.Label
		}
	}
	label := api.Pub
	for _, e := range c.names {
		if (x.Kind == api.EName || x.Kind == api.EIndex) && e.name == x.Name {
			label = e.kind.Label
		}
	}
	for _, a := range x.Args {
		label = max(label, c.label(a))
	}
	return label
}

// setting makes a statement that sets or stores.
func (c *chance) setting(s api.Stmt) api.Stmt {
	e, ok := c.pick(func(e entry) bool { return !e.fixed && (e.kind.Len > 0) == (s.Kind == api.SStore) })
	if !ok {
		return api.Stmt{}
	}
	s.Name = e.name
	if s.Kind == api.SStore {
		s.Args = []api.Expr{c.index(e.kind.Len), c.expr(api.TU32, e.kind.Label)}
		return s
	}
	s.Args = []api.Expr{c.expr(e.kind.Elem, e.kind.Label)}
	return s
}

// loop makes a loop: most bounds are not above the greatest one.
func (c *chance) loop(s api.Stmt) api.Stmt {
	if s.Name = c.fresh(); s.Name == "" || c.nests > 4 {
		return api.Stmt{}
	}
	s.Most = c.r.IntN(5)
	switch {
	case c.one(c.wild):
		s.Args = []api.Expr{c.expr(api.TU32, api.Pub)}
	case c.one(2):
		s.Most = 3
		s.Args = []api.Expr{{Kind: api.EAnd, Args: []api.Expr{{Kind: api.ENum, Num: 3}, c.expr(api.TU32, api.Pub)}}}
	default:
		s.Args = []api.Expr{{Kind: api.ENum, Num: c.r.IntN(s.Most + 1)}}
	}
	s.Body = c.block(entry{name: s.Name, fixed: true, below: s.Most})
	return s
}

// block makes a block, in which other names may be known.
func (c *chance) block(l ...entry) []api.Stmt {
	first := len(c.names)
	c.names = append(c.names, l...)
	c.nests += 2
	b := c.stmts()
	c.nests -= 2
	c.names = c.names[:first]
	return b
}

// stmts makes statements.
func (c *chance) stmts() []api.Stmt {
	var l []api.Stmt
	for c.left > 0 && c.nests < 9 && !c.one(5) {
		c.left--
		if s := c.stmt(); s.Kind != 0 {
			l = append(l, s)
		}
	}
	return l
}

// param makes a parameter; none, if it came to none.
func (c *chance) param(main bool) {
	p := api.Param{Name: c.fresh(), Type: c.scalar()}
	if main {
		p.Type.Elem = api.TU32
	}
	if c.one(2) {
		p.Type, p.Out = c.array(), c.one(2)
	}
	if p.Name != "" {
		c.take(p)
	}
}

// take makes a parameter of the last function.
func (c *chance) take(p api.Param) {
	f := &c.funcs[len(c.funcs)-1]
	f.Params = append(f.Params, p)
	c.names = append(c.names, entry{name: p.Name, kind: p.Type, fixed: !p.Out})
}

// function makes a function of a name. It is not known in itself.
func (c *chance) function(name string, left int) {
	c.names, c.left = nil, left
	main := name == "main"
	c.funcs = append(c.funcs, api.Func{Name: name})
	for !c.one(5) {
		c.param(main)
	}
	if main {
		c.take(api.Param{Name: "op", Type: api.Type{Len: 4}, Out: true})
		c.take(api.Param{Name: "os", Type: api.Type{Len: 4, Label: api.Sec}, Out: true})
	}
	f := c.funcs[len(c.funcs)-1]
	c.funcs = c.funcs[:len(c.funcs)-1]
	for range 4 {
		f.Body = append(f.Body, c.stmts()...)
	}
	if main {
		f.Body = append(f.Body, c.telling()...)
	} else if f.Has = c.one(2); f.Has {
		f.Result = c.scalar()
		f.Body = append(f.Body, api.Stmt{Kind: api.SReturn, Args: []api.Expr{c.expr(f.Result.Elem, f.Result.Label)}})
	}
	c.funcs = append(c.funcs, f)
}

// telling makes statements that let each name that is known change what goes out.
func (c *chance) telling() []api.Stmt {
	var l []api.Stmt
	for _, e := range c.names {
		to := []string{"op", "os"}[e.kind.Label]
		values := []api.Expr{{Kind: api.EName, Name: e.name}}
		if e.kind.Elem == api.TMask {
			values = []api.Expr{{Kind: api.EWord, Args: values}}
		}
		if e.kind.Len > 0 {
			values = nil
			for k := range e.kind.Len {
				values = append(values, api.Expr{Kind: api.EIndex, Name: e.name, Args: []api.Expr{{Kind: api.ENum, Num: k}}})
			}
		}
		at := []api.Expr{{Kind: api.ENum, Num: c.r.IntN(4)}}
		for _, x := range values {
			turned := api.Expr{Kind: api.ERor, Num: 7, Args: []api.Expr{{Kind: api.EIndex, Name: to, Args: at}}}
			sum := api.Expr{Kind: api.EAdd, Args: []api.Expr{turned, x}}
			l = append(l, api.Stmt{Kind: api.SStore, Name: to, Args: []api.Expr{at[0], sum}})
		}
	}
	return l
}

// programOf makes a program of chance that costs no more than it may.
func programOf(t *testing.T, r *rand.Rand) api.Program {
	t.Helper()
	for {
		c := &chance{r: r, wild: 3 + r.IntN(40)}
		for range r.IntN(5) {
			name := pool[r.IntN(len(pool))]
			if !slices.ContainsFunc(c.funcs, func(f api.Func) bool { return f.Name == name }) {
				c.function(name, 20)
			}
		}
		c.function("main", 60)
		p := api.Program{Funcs: c.funcs}
		switch bad := types.Check(p); {
		case bad.Err == api.OK:
			return p
		case types.Cost(p) == 0:
			t.Fatalf("%s: Check tells %d", textOf(p), bad.Err)
		}
	}
}

// textOf tells a program's text.
func textOf(p api.Program) string {
	s, _ := prose.Program(p)
	return s
}

func TestChance(t *testing.T) {
	r := rand.New(rand.NewPCG(16, 1))
	ended, trapped := 0, 0
	for k := range 2500 {
		p := programOf(t, r)
		for range 3 {
			input := inputOf(r, p)
			out, err := Eval(p, input)
			if want, e := spelled(p, input); out != want || err != e {
				t.Fatalf("%s\nof %x: %x, error %d; wanted %x, error %d", textOf(p), input, out, err, want, e)
			}
			switch err {
			case api.OK:
				ended++
			case api.ErrTrap:
				trapped++
			default:
				t.Fatalf("%s\nof %x: error %d", textOf(p), input, err)
			}
		}
		if k%5 > 0 {
			continue
		}
		input := inputOf(r, p)
		leaves(t, p, input)
		told(t, textOf(p), p, input+"\x00", "", api.ErrArg)
		if input != "" {
			told(t, textOf(p), p, input[1:], "", api.ErrArg)
		}
	}
	if ended < 3000 || trapped < 1500 {
		t.Errorf("%d runs ended, %d trapped", ended, trapped)
	}
}

func TestMadeUpByChance(t *testing.T) {
	r := rand.New(rand.NewPCG(16, 2))
	changed := 0
	for range 1000 {
		p := programOf(t, r)
		made, _ := madeUp(p)
		input := inputOf(r, p)
		out, err := Eval(p, input)
		b := []byte(input)
		for k := range b {
			if made[k] {
				b[k] = byte(1 + r.IntN(255))
				changed++
				if again, e := Eval(p, string(b)); again != out || e != err {
					t.Fatalf("%s\nof %x: %x, error %d; of %x: %x, error %d", textOf(p), input, out, err, b, again, e)
				}
			}
		}
	}
	if changed < 500 {
		t.Errorf("%d bytes were changed", changed)
	}
}

func TestAheadByChance(t *testing.T) {
	r := rand.New(rand.NewPCG(16, 3))
	more := 0
	for range 1000 {
		p, other := programOf(t, r), programOf(t, r)
		input := inputOf(r, p)
		out, err := Eval(p, input)
		// The other program's functions, but main, are renamed, and stand ahead, between or behind.
		q := api.Program{Funcs: slices.Clone(p.Funcs)}
		at := 0
		for _, f := range other.Funcs[:len(other.Funcs)-1] {
			at += r.IntN(len(q.Funcs) - at)
			q.Funcs = slices.Insert(q.Funcs, at, renamed(f))
			at++
			more++
		}
		if again, e := Eval(q, input); again != out || e != err {
			t.Fatalf("%s\nof %x: %x, error %d, wanted %x, error %d", textOf(q), input, again, e, out, err)
		}
	}
	if more < 500 {
		t.Errorf("%d functions stood ahead", more)
	}
}

// renamed tells a function with another name, that calls others by other ones as well.
func renamed(f api.Func) api.Func {
	f.Name += "_"
	f.Body = renamedBlock(f.Body)
	return f
}

// renamedBlock does so with statements.
func renamedBlock(l []api.Stmt) []api.Stmt {
	l = slices.Clone(l)
	for k := range l {
		s := &l[k]
		s.Args, s.Body, s.Else = renamedArgs(s.Args), renamedBlock(s.Body), renamedBlock(s.Else)
	}
	return l
}

// renamedArgs does so with expressions.
func renamedArgs(l []api.Expr) []api.Expr {
	l = slices.Clone(l)
	for k := range l {
		if l[k].Kind == api.ECall {
			l[k].Name += "_"
		}
		l[k].Args = renamedArgs(l[k].Args)
	}
	return l
}

// TestNothingFlows changes what is secret: what goes out that is public, and whether the program traps, stays.
func TestNothingFlows(t *testing.T) {
	r := rand.New(rand.NewPCG(16, 4))
	other := 0
	for range 1000 {
		p := programOf(t, r)
		l, _ := shape.Of(p)
		_, public := madeUp(p)
		a := inputOf(r, p)
		b := []byte(inputOf(r, p))
		for k := range b {
			if public[k] {
				b[k] = a[k]
			}
		}
		out, err := Eval(p, a)
		again, e := Eval(p, string(b))
		if err != e || publicOf(l, out) != publicOf(l, again) {
			t.Fatalf("%s\nof %x: %x, error %d; of %x: %x, error %d", textOf(p), a, out, err, b, again, e)
		}
		if out != again {
			other++
		}
	}
	if other < 200 {
		t.Errorf("%d outputs were unlike", other)
	}
}

// publicOf tells the bytes of an output that are public; none of none.
func publicOf(l []api.Field, out string) string {
	var s strings.Builder
	for _, f := range l {
		if f.Out && f.Type.Label == api.Pub && out != "" {
			s.WriteString(out[f.Off : f.Off+f.Size])
		}
	}
	return s.String()
}
