package eval

import (
	"math/rand/v2"

	"hauberk/api"
	"hauberk/types"
)

// The document's words, spelled a second time: all scalars and elements lie in one memory of numbers, a name stands for a place in it, and that a program traps is told on every way back.

// all is how many words there are.
const all = 1 << 32

// place is where a name's numbers lie: the first one, how many there are (0: it is a scalar), and whether they are bytes.
type place struct {
	at, len int
	bytes   bool
}

// naming is a name, for what it stands, and the names that were made ahead of it.
type naming struct {
	name  string
	place place
	elder *naming
}

// find tells for what a name stands.
func (n *naming) find(name string) place {
	for n.name != name {
		n = n.elder
	}
	return n.place
}

// doer does a program.
type doer struct {
	funcs  []api.Func
	memory []uint64
}

// room tells a new place, in which all is 0.
func (d *doer) room(t api.Type) place {
	p := place{len(d.memory), t.Len, t.Elem == api.TU8}
	d.memory = append(d.memory, make([]uint64, max(1, t.Len))...)
	return p
}

// kept tells a name that stands for a new place, with a number in it.
func (d *doer) kept(n *naming, name string, x uint64) *naming {
	p := d.room(api.Type{})
	d.memory[p.at] = x
	return &naming{name, p, n}
}

// expr tells an expression's number; false, if it traps.
func (d *doer) expr(x api.Expr, n *naming) (uint64, bool) {
	switch x.Kind {
	case api.EName:
		return d.memory[n.find(x.Name).at], true
	case api.EIndex:
		k, ok := d.expr(x.Args[0], n)
		p := n.find(x.Name)
		if !ok || k >= uint64(p.len) {
			return 0, false
		}
		return d.memory[p.at+int(k)], true
	case api.ECall:
		return d.call(x, n)
	}
	var of [3]uint64
	for k, a := range x.Args {
		v, ok := d.expr(a, n)
		if !ok {
			return 0, false
		}
		of[k] = v
	}
	return spelledOf(x.Kind, uint64(x.Num), of[0], of[1], of[2]), true
}

// truth tells a mask.
func truth(yes bool) uint64 {
	if yes {
		return all - 1
	}
	return 0
}

// bitwise tells the word of which each bit is one, if so many of both have it as it is said.
func bitwise(a, b uint64, counts ...uint64) uint64 {
	w := uint64(0)
	for bit := uint64(1); bit < all; bit *= 2 {
		for _, n := range counts {
			if a/bit%2+b/bit%2 == n {
				w += bit
			}
		}
	}
	return w
}

// spelledOf tells what a kind of expression makes of words, and of a number.
func spelledOf(kind int, num, a, b, c uint64) uint64 {
	two := uint64(1) // 2 to the power of the number
	for range num % 32 {
		two *= 2
	}
	switch kind {
	case api.ENum:
		return num
	case api.ENot, api.EFlip:
		return all - 1 - a
	case api.ENeg:
		return (all - a) % all
	case api.EAdd:
		return (a + b) % all
	case api.ESub:
		return (a + all - b) % all
	case api.EMul:
		return a * b % all
	case api.EHigh:
		return a * b / all
	case api.ECarry:
		return (a + b) / all
	case api.EAnd:
		return bitwise(a, b, 2)
	case api.EOr:
		return bitwise(a, b, 1, 2)
	case api.EXor:
		return bitwise(a, b, 1)
	case api.EShl:
		return a * two % all
	case api.EShr:
		return a / two
	case api.ERor:
		return a/two + a%two*(all/two)
	case api.EEq:
		return truth(a == b)
	case api.ENe:
		return truth(a != b)
	case api.ELt:
		return truth(a < b)
	case api.ELe:
		return truth(a <= b)
	case api.EGt:
		return truth(a > b)
	case api.EGe:
		return truth(a >= b)
	case api.ESelect:
		if a == 0 {
			return c
		}
		return b
	}
	return a // EWord
}

// call does what a call asks for, and tells its result.
func (d *doer) call(x api.Expr, n *naming) (uint64, bool) {
	k := 0
	for d.funcs[k].Name != x.Name {
		k++
	}
	f := d.funcs[k]
	var mine *naming
	for i, p := range f.Params {
		if p.Type.Len > 0 {
			mine = &naming{p.Name, n.find(x.Args[i].Name), mine}
			continue
		}
		v, ok := d.expr(x.Args[i], n)
		if !ok {
			return 0, false
		}
		mine = d.kept(mine, p.Name, v)
	}
	return d.block(f.Body, mine)
}

// block does statements one behind the other, and tells the last one's result; false, if one traps.
func (d *doer) block(l []api.Stmt, n *naming) (uint64, bool) {
	result := uint64(0)
	for _, s := range l {
		var of [2]uint64
		for k, x := range s.Args {
			v, ok := d.expr(x, n)
			if !ok {
				return 0, false
			}
			of[k] = v
		}
		ok := true
		switch s.Kind {
		case api.SLet:
			n = d.kept(n, s.Name, of[0])
		case api.SVar:
			n = &naming{s.Name, d.room(s.Type), n}
		case api.SSet:
			d.memory[n.find(s.Name).at] = of[0]
		case api.SStore:
			ok = d.store(n.find(s.Name), of[0], of[1])
		case api.SIf:
			if of[0] != 0 {
				_, ok = d.block(s.Body, n)
			} else {
				_, ok = d.block(s.Else, n)
			}
		case api.SFor:
			ok = of[0] <= uint64(s.Most)
			for k := uint64(0); ok && k < of[0]; k++ {
				_, ok = d.block(s.Body, d.kept(n, s.Name, k))
			}
		case api.SReturn:
			result = of[0]
		}
		if !ok {
			return 0, false
		}
	}
	return result, true
}

// store stores a number; false, if there is no such element.
func (d *doer) store(p place, k, x uint64) bool {
	if k >= uint64(p.len) {
		return false
	}
	if p.bytes {
		x %= 256
	}
	d.memory[p.at+int(k)] = x
	return true
}

// bytesOf tells how many bytes an element has, how many elements have, and how many those have with what is made up behind.
func bytesOf(t api.Type) (int, int, int) {
	switch {
	case t.Len == 0:
		return 4, 4, 4
	case t.Elem == api.TU8:
		return 1, t.Len, (t.Len + 3) &^ 3
	}
	return 4, 4 * t.Len, 4 * t.Len
}

// spelled tells what Eval should tell.
func spelled(p api.Program, input string) (string, api.Errno) {
	if bad := types.Check(p); bad.Err != api.OK {
		return "", bad.Err
	}
	d := &doer{funcs: p.Funcs}
	main := p.Funcs[len(p.Funcs)-1]
	var n *naming
	for _, x := range main.Params {
		r := d.room(x.Type)
		n = &naming{x.Name, r, n}
		width, elements, size := bytesOf(x.Type)
		if x.Out {
			continue
		}
		if len(input) < size {
			return "", api.ErrArg
		}
		for k := range elements {
			d.memory[r.at+k/width] += uint64(input[k]) << (8 * (k % width))
		}
		input = input[size:]
	}
	if input != "" {
		return "", api.ErrArg
	}
	if _, ok := d.block(main.Body, n); !ok {
		return "", api.ErrTrap
	}
	out := []byte{}
	for _, x := range main.Params {
		if !x.Out {
			continue
		}
		r := n.find(x.Name)
		width, elements, size := bytesOf(x.Type)
		for k := range size {
			b := byte(0)
			if k < elements {
				b = byte(d.memory[r.at+k/width] >> (8 * (k % width)))
			}
			out = append(out, b)
		}
	}
	return string(out), api.OK
}

// madeUp tells of each byte of a program's input whether it is made up behind elements, and whether it is public.
func madeUp(p api.Program) (made, public []bool) {
	for _, x := range p.Funcs[len(p.Funcs)-1].Params {
		_, elements, size := bytesOf(x.Type)
		for k := range size {
			if !x.Out {
				made = append(made, k >= elements)
				public = append(public, x.Type.Label == api.Pub)
			}
		}
	}
	return made, public
}

// inputOf makes an input of chance: small numbers and great ones.
func inputOf(r *rand.Rand, p api.Program) string {
	made, _ := madeUp(p)
	b := make([]byte, len(made))
	for k := range b {
		b[k] = byte(r.IntN(256))
		if r.IntN(2) == 0 || made[k] {
			b[k] = 0
		}
	}
	if r.IntN(4) == 0 {
		for k := range b {
			b[k] = byte(r.IntN(3)) * 0x7f
		}
	}
	return string(b)
}
