package ir

import "hauberk/api"

// ones is the greatest word.
const ones = 1<<32 - 1

// Check tells whether a program may be.
func Check(p api.IR) api.Errno {
	switch {
	case tooMany(p) || tooWide(p):
		return api.ErrLimit
	case !bytesMayBe(p.In) || !bytesMayBe(p.Out) || p.Temps < 0 || len(p.Blocks) == 0:
		return api.ErrArg
	case !arraysMayBe(p) || !blocksMayBe(p):
		return api.ErrArg
	}
	return api.OK
}

// tooMany tells whether there are more parts of one kind than there may be.
func tooMany(p api.IR) bool {
	ops := 0
	for _, b := range p.Blocks {
		ops += len(b.Ops)
	}
	return max(p.Temps, len(p.Arrays), len(p.Blocks), ops) > Most
}

// tooWide tells whether there are more bytes in a rail than there may be.
func tooWide(p api.IR) bool {
	// An output that is too great by itself is told ahead of the sum, which it could take beyond what a number holds.
	if p.Out > Rail {
		return true
	}
	sum := max(p.Out, 0)
	for _, a := range p.Arrays {
		if a.Kind == api.ARail && elementsMayBe(a) {
			sum += madeUp(size(a))
		}
	}
	return sum > Rail
}

// size tells how many bytes an array's elements have.
func size(a api.Array) int { return a.Elem * a.Len }

// madeUp tells the next multiple of 4.
func madeUp(n int) int { return (n + 3) / 4 * 4 }

// bytesMayBe tells whether there may be so many bytes of input, or of output.
func bytesMayBe(n int) bool { return n >= 0 && n <= Rail && n%4 == 0 }

// elementsMayBe tells whether an array may have such elements, and so many.
func elementsMayBe(a api.Array) bool {
	return (a.Elem == 1 || a.Elem == 4) && a.Len >= 1 && a.Len <= Array
}

// arraysMayBe tells whether all arrays may be.
func arraysMayBe(p api.IR) bool {
	end := 0
	for _, a := range p.Arrays {
		if !elementsMayBe(a) {
			return false
		}
		switch a.Kind {
		case api.ARail:
			if a.Off != 0 {
				return false
			}
		case api.AIn:
			if !lies(a, 0, p.In) {
				return false
			}
		case api.AOut:
			if !lies(a, end, p.Out) {
				return false
			}
			end = a.Off + madeUp(size(a))
		default:
			return false
		}
	}
	return true
}

// lies tells whether an array lies at a multiple of 4 behind those ahead of it and within so many bytes.
func lies(a api.Array, from, within int) bool {
	return a.Off >= from && a.Off%4 == 0 && a.Off <= within-size(a)
}

// blocksMayBe tells whether all operations and all ends may be.
func blocksMayBe(p api.IR) bool {
	for _, b := range p.Blocks {
		for _, o := range b.Ops {
			if !opMayBe(p, o) {
				return false
			}
		}
		if !endMayBe(p, b.Term) {
			return false
		}
	}
	return true
}

// opMayBe tells whether a program may have such an operation.
func opMayBe(p api.IR, o api.Op) bool {
	if !is(o) || Makes(o) && !isTemp(p, o.Dst) || !immMayBe(p.Arrays, o) {
		return false
	}
	for _, t := range Uses(o) {
		if !isTemp(p, t) {
			return false
		}
	}
	return true
}

// isTemp tells whether a program has such a temp.
func isTemp(p api.IR, t int) bool { return t >= 0 && t < p.Temps }

// immMayBe tells whether an operation's number may be.
func immMayBe(l []api.Array, o api.Op) bool {
	n := o.Imm
	switch o.Kind {
	case api.IConst:
		return n >= 0 && n <= ones
	case api.IShl, api.IShr, api.IRor:
		return n >= 0 && n < 32
	case api.ILoad:
		return n >= 0 && n < len(l)
	case api.IStore:
		return n >= 0 && n < len(l) && l[n].Kind != api.AIn
	}
	return true
}

// endMayBe tells whether a program may have such an end of a block.
func endMayBe(p api.IR, t api.Term) bool {
	switch t.Kind {
	case api.TJump:
		return isNext(p, t.Yes) && t == api.Term{Kind: t.Kind, Yes: t.Yes}
	case api.TBranch:
		return isNext(p, t.Yes) && isNext(p, t.No) && isTemp(p, t.A)
	}
	return t == api.Term{Kind: api.THalt}
}

// isNext tells whether a block may be followed by such a one.
func isNext(p api.IR, b int) bool { return b >= api.NoBlock && b < len(p.Blocks) }
