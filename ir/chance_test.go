package ir

import (
	"math/rand/v2"
	"reflect"
	"slices"
	"testing"

	"hauberk/api"
)

// chance makes programs, and what else there is of chance.
type chance struct{ *rand.Rand }

func newChance(seed uint64) chance { return chance{rand.New(rand.NewPCG(seed, 17))} }

// one tells one of some numbers.
func (c chance) one(l ...int) int { return l[c.IntN(len(l))] }

// bytes tells a text of so many bytes.
func (c chance) bytes(n int) string {
	b := make([]byte, n)
	for k := range b {
		b[k] = byte(c.one(0, 1, 2, 3, c.IntN(256)))
	}
	return string(b)
}

// word tells a word, more often a small one, or one at a bound.
func (c chance) word() int {
	return c.one(c.IntN(5), c.IntN(5), 0xffffffff, someWords[c.IntN(len(someWords))], int(c.Uint32()))
}

// program makes a program that may be.
func (c chance) program() api.IR {
	p := api.IR{Temps: 1 + c.IntN(7), In: 4 * c.IntN(5)}
	for range c.IntN(6) {
		a := api.Array{Elem: c.one(1, 4), Len: 1 + c.IntN(6), Kind: c.IntN(3)}
		size := (a.Elem*a.Len + 3) / 4 * 4
		switch a.Kind {
		case api.AIn:
			if size > p.In {
				continue
			}
			a.Off = 4 * c.IntN((p.In-size)/4+1)
		case api.AOut:
			a.Off = p.Out + 4*c.one(0, 0, 1)
			p.Out = a.Off + size
		}
		p.Arrays = append(p.Arrays, a)
	}
	p.Out += 4 * c.one(0, 0, 1)
	n := 1 + c.IntN(6)
	for k := range n {
		var l []api.Op
		for range c.IntN(8) {
			l = append(l, c.op(p)...)
		}
		end := c.end(p, k, n)
		if end.Kind == api.TBranch && c.IntN(8) > 0 {
			l = append(l, api.Op{Kind: c.one(api.ILess, api.ISame), Dst: end.A, A: c.IntN(p.Temps), B: c.IntN(p.Temps)})
		}
		p.Blocks = append(p.Blocks, block(end, l...))
	}
	return p
}

// op makes an operation, of arrays mostly with one ahead that makes an index.
func (c chance) op(p api.IR) []api.Op {
	o := api.Op{Kind: 1 + c.IntN(19)}
	for _, name := range []string{"dst", "a", "b", "c"} {
		if has(o.Kind, name) {
			*fieldOf(&o, name) = c.IntN(p.Temps)
		}
	}
	switch o.Kind {
	case api.IConst:
		o.Imm = c.word()
	case api.IShl, api.IShr, api.IRor:
		o.Imm = c.IntN(32)
	case api.ILoad, api.IStore:
		if len(p.Arrays) == 0 {
			return nil
		}
		o.Imm = c.IntN(len(p.Arrays))
		a := p.Arrays[o.Imm]
		if a.Kind == api.AIn && o.Kind == api.IStore {
			return nil
		}
		if c.IntN(20) > 0 {
			return []api.Op{con(o.A, c.IntN(a.Len)), o}
		}
	}
	return []api.Op{o}
}

// end makes the end of one of so many blocks.
func (c chance) end(p api.IR, k, n int) api.Term {
	next := func() int {
		if c.IntN(3) == 0 {
			return c.IntN(n+1) - 1
		}
		return min(k+1, n-1)
	}
	switch {
	case k == n-1 || c.IntN(9) == 0:
		return halt
	case c.IntN(2) == 0:
		return jump(next())
	}
	return branch(c.IntN(p.Temps), next(), next())
}

// P17.3: programs of chance, with budgets below and above what they take.
func TestChanceRuns(t *testing.T) {
	c := newChance(1)
	var told [3]int
	for range 25000 {
		p := c.program()
		input := c.bytes(p.In)
		budget := c.one(200, 200, c.IntN(30))
		want, err, n := spelledRun(p, input, budget)
		if out, e := Run(p, input, budget); out != want || e != err {
			t.Fatalf("%+v of %x in %d: %x, error %d; wanted %x, error %d", p, input, budget, out, e, want, err)
		}
		switch err {
		case api.OK:
			told[0]++
		case api.ErrTrap:
			told[1]++
		case api.ErrBudget:
			told[2]++
		default:
			t.Fatalf("%+v: error %d", p, err)
		}
		if err == api.ErrBudget {
			continue
		}
		steps(t, p, p, input, n, want, err)
	}
	for k, n := range told {
		if n < 1500 {
			t.Errorf("%d of sort %d are too few", n, k)
		}
	}
}

// numbersOf tells where the numbers of a program are.
func numbersOf(v reflect.Value) []reflect.Value {
	var l []reflect.Value
	switch v.Kind() {
	case reflect.Struct:
		for k := range v.NumField() {
			l = append(l, numbersOf(v.Field(k))...)
		}
	case reflect.Slice:
		for k := range v.Len() {
			l = append(l, numbersOf(v.Index(k))...)
		}
	case reflect.Int:
		l = append(l, v)
	}
	return l
}

// P17.1: programs of chance with one number or two spoiled.
func TestChanceChecks(t *testing.T) {
	c := newChance(2)
	var told [3]int
	for range 40000 {
		p := c.program()
		l := numbersOf(reflect.ValueOf(&p).Elem())
		for range c.one(1, 1, 2) {
			x := l[c.IntN(len(l))]
			n := int(x.Int())
			x.SetInt(int64(c.one(n+1, n-1, n+4, n-4, 0, 1, 2, 3, 4, 5, -1, -4, 16384, 16385, 65536, 65540, Most, Most+1, 0xffffffff, 1<<32, least, greatest, c.IntN(40))))
		}
		want := spelledCheck(p)
		if err := Check(p); err != want {
			t.Fatalf("%+v: %d; wanted %d", p, err, want)
		}
		input := c.bytes(max(0, min(p.In, 100)))
		out, err, _ := spelledRun(p, input, 30)
		if o, e := Run(p, input, 30); o != out || e != err {
			t.Fatalf("%+v of %x: %x, error %d; wanted %x, error %d", p, input, o, e, out, err)
		}
		switch want {
		case api.OK:
			told[0]++
		case api.ErrArg:
			told[1]++
		case api.ErrLimit:
			told[2]++
		}
	}
	for k, n := range told {
		if n < 300 {
			t.Errorf("%d of sort %d are too few", n, k)
		}
	}
}

// P17.2: operations of chance, with fields that they have not, and words.
func TestChanceOps(t *testing.T) {
	c := newChance(3)
	for range 300000 {
		n := func() int { return c.one(0, 0, c.IntN(9), c.IntN(9), c.word(), -1) }
		o := api.Op{Kind: c.IntN(23) - 2, Dst: n(), A: n(), B: n(), C: n(), Imm: n()}
		if c.IntN(3) > 0 {
			for _, name := range namesOfFields {
				if !has(o.Kind, name) {
					*fieldOf(&o, name) = 0
				}
			}
		}
		if l, want := Uses(o), spelledUses(o); !slices.Equal(l, want) {
			t.Fatalf("%+v uses %v; wanted %v", o, l, want)
		}
		if m, want := Makes(o), spelledIs(o) && has(o.Kind, "dst"); m != want {
			t.Fatalf("%+v makes: %v", o, m)
		}
		a, b, z := c.word(), c.word(), c.word()
		want, ok := spelledValue(o, a, b, z)
		if v, is := Value(o, a, b, z); v != want || is != ok {
			t.Fatalf("%+v of %d, %d, %d: %d, %v; wanted %d, %v", o, a, b, z, v, is, want, ok)
		}
	}
}

// renumbered tells a program with other numbers for temps, of which there are so many more.
func renumbered(c chance, p api.IR, more int) api.IR {
	names := c.Perm(p.Temps + more)
	q := p
	q.Temps += more
	q.Blocks = nil
	for _, b := range p.Blocks {
		var l []api.Op
		for _, o := range b.Ops {
			for _, name := range []string{"dst", "a", "b", "c"} {
				if f := fieldOf(&o, name); has(o.Kind, name) {
					*f = names[*f]
				}
			}
			l = append(l, o)
		}
		if b.Term.Kind == api.TBranch {
			b.Term.A = names[b.Term.A]
		}
		q.Blocks = append(q.Blocks, block(b.Term, l...))
	}
	return q
}

// widened tells a program with a block that none comes to at such a place.
func widened(c chance, p api.IR, place int) api.IR {
	moved := func(b int) int {
		if b >= place {
			return b + 1
		}
		return b
	}
	q := p
	q.Blocks = nil
	for _, b := range p.Blocks {
		if b.Term.Kind != api.THalt {
			b.Term.Yes = moved(b.Term.Yes)
		}
		if b.Term.Kind == api.TBranch {
			b.Term.No = moved(b.Term.No)
		}
		q.Blocks = append(q.Blocks, b)
	}
	alone := block(c.end(p, 0, len(p.Blocks)), c.op(p)...)
	q.Blocks = slices.Insert(q.Blocks, place, alone)
	return q
}

// P17.4: more budget, a block that none comes to, and other numbers for temps change nothing.
func TestChanceApart(t *testing.T) {
	c := newChance(4)
	for range 20000 {
		p := c.program()
		input := c.bytes(p.In)
		budget := c.one(200, c.IntN(30))
		want, err := Run(p, input, budget)
		hold := func(what string, q api.IR, more int) {
			t.Helper()
			if out, e := Run(q, input, budget+more); out != want || e != err {
				t.Fatalf("%s: %+v of %x: %x, error %d; of %+v: %x, error %d", what, p, input, want, err, q, out, e)
			}
		}
		if err != api.ErrBudget {
			hold("more budget", p, 1+c.IntN(1000))
		}
		hold("a block", widened(c, p, 1+c.IntN(len(p.Blocks))), 0)
		hold("other numbers", renumbered(c, p, 0), 0)
		hold("other numbers, and more", renumbered(c, p, c.IntN(9)), 0)
	}
}
