package ir

import "hauberk/api"

// Run tells the output of a program.
func Run(p api.IR, input string, budget int) (string, api.Errno) {
	if err := Check(p); err != api.OK {
		return "", err
	}
	if len(input) != p.In || budget < 0 || budget > Steps {
		return "", api.ErrArg
	}
	out := make([]byte, p.Out)
	r := running{make([]int, p.Temps), laid(p.Arrays, []byte(input), out)}
	if err := r.through(p.Blocks, budget); err != api.OK {
		return "", err
	}
	return string(out), api.OK
}

// elements are an array's bytes, and how many elements it has, of how many bytes.
type elements struct {
	bytes     []byte
	elem, len int
}

// laid tells where the elements of all arrays lie: those of the input and of the output there, so that arrays that share bytes of the input take no room of their own.
func laid(l []api.Array, in, out []byte) []elements {
	var all []elements
	for _, a := range l {
		var bytes []byte
		switch a.Kind {
		case api.AIn:
			bytes = in[a.Off:]
		case api.AOut:
			bytes = out[a.Off:]
		default:
			bytes = make([]byte, size(a))
		}
		all = append(all, elements{bytes, a.Elem, a.Len})
	}
	return all
}

// load tells the element at an index that is less than the array's length.
func (e elements) load(i int) int {
	if e.elem == 1 {
		return int(e.bytes[i])
	}
	b := e.bytes[4*i:]
	return int(b[0]) | int(b[1])<<8 | int(b[2])<<16 | int(b[3])<<24
}

// store makes a word the element at an index that is less than the array's length.
func (e elements) store(i, n int) {
	if e.elem == 1 {
		e.bytes[i] = byte(n)
		return
	}
	b := e.bytes[4*i:]
	b[0], b[1], b[2], b[3] = byte(n), byte(n>>8), byte(n>>16), byte(n>>24)
}

// running is a run: what is in the temps, and where arrays lie.
type running struct {
	temps  []int
	arrays []elements
}

// through does blocks from the first one on, in so many steps at most.
func (r running) through(l []api.Block, budget int) api.Errno {
	for at := 0; at != api.NoBlock; {
		b := l[at]
		if !r.all(b.Ops[:min(len(b.Ops), budget)]) {
			return api.ErrTrap
		}
		budget -= len(b.Ops) + 1
		if budget < 0 {
			return api.ErrBudget
		}
		if b.Term.Kind == api.THalt {
			return api.OK
		}
		at = r.next(b.Term)
	}
	return api.ErrTrap
}

// all does operations one behind the other; false, if one traps.
func (r running) all(l []api.Op) bool {
	for _, o := range l {
		if !r.do(o) {
			return false
		}
	}
	return true
}

// do does an operation; false, if it traps.
func (r running) do(o api.Op) bool {
	a, b := r.temps[o.A], r.temps[o.B]
	switch o.Kind {
	case api.ILoad:
		e := r.arrays[o.Imm]
		if a >= e.len {
			return false
		}
		r.temps[o.Dst] = e.load(a)
	case api.IStore:
		e := r.arrays[o.Imm]
		if a >= e.len {
			return false
		}
		e.store(a, b)
	default:
		r.temps[o.Dst] = value(o, a, b, r.temps[o.C])
	}
	return true
}

// next tells which block is behind an end; that of none where it traps.
func (r running) next(t api.Term) int {
	if t.Kind == api.TJump {
		return t.Yes
	}
	switch r.temps[t.A] {
	case ones:
		return t.Yes
	case 0:
		return t.No
	}
	return api.NoBlock
}
