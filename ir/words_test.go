package ir

import (
	"math/big"
	"math/bits"
	"slices"
	"strings"

	"hauberk/api"
)

// The document's words spelled a second time, in another way: fields by their names, arrays as lists of their own, steps counted one by one.

// fieldsOf are the fields of each kind, as the document's words tell them.
var fieldsOf = map[int]string{
	api.IConst: "dst imm", api.ICopy: "dst a", api.INot: "dst a",
	api.IAdd: "dst a b", api.ISub: "dst a b", api.IMul: "dst a b", api.IHigh: "dst a b", api.IAnd: "dst a b", api.IOr: "dst a b",
	api.IXor: "dst a b", api.ILess: "dst a b", api.ISame: "dst a b", api.ICarry: "dst a b",
	api.IShl: "dst a imm", api.IShr: "dst a imm", api.IRor: "dst a imm",
	api.ISelect: "dst a b c", api.ILoad: "dst a imm", api.IStore: "a b imm",
}

var namesOfFields = []string{"dst", "a", "b", "c", "imm"}

func fieldOf(o *api.Op, name string) *int {
	switch name {
	case "dst":
		return &o.Dst
	case "a":
		return &o.A
	case "b":
		return &o.B
	case "c":
		return &o.C
	}
	return &o.Imm
}

func has(kind int, name string) bool {
	return slices.Contains(strings.Fields(fieldsOf[kind]), name)
}

func spelledIs(o api.Op) bool {
	if fieldsOf[o.Kind] == "" {
		return false
	}
	for _, name := range namesOfFields {
		if !has(o.Kind, name) && *fieldOf(&o, name) != 0 {
			return false
		}
	}
	return true
}

func spelledUses(o api.Op) []int {
	var l []int
	for _, name := range []string{"a", "b", "c"} {
		if spelledIs(o) && has(o.Kind, name) {
			l = append(l, *fieldOf(&o, name))
		}
	}
	return l
}

func all1(yes bool) uint32 {
	if yes {
		return 0xffffffff
	}
	return 0
}

func spelledValue(o api.Op, x, y, z int) (int, bool) {
	if !spelledIs(o) {
		return 0, false
	}
	a, b, c := uint32(x), uint32(y), uint32(z)
	high, low := bits.Mul32(a, b)
	sum, carry := bits.Add32(a, b, 0)
	n := o.Imm & 31
	var v uint32
	switch o.Kind {
	case api.IConst:
		v = uint32(o.Imm)
	case api.ICopy:
		v = a
	case api.IAdd:
		v = sum
	case api.ISub:
		v = a - b
	case api.IMul:
		v = low
	case api.IHigh:
		v = high
	case api.IAnd:
		v = a & b
	case api.IOr:
		v = a | b
	case api.IXor:
		v = a ^ b
	case api.INot:
		v = ^a
	case api.IShl:
		v = a << n
	case api.IShr:
		v = a >> n
	case api.IRor:
		v = bits.RotateLeft32(a, -n)
	case api.ILess:
		v = all1(a < b)
	case api.ISame:
		v = all1(a == b)
	case api.ICarry:
		v = carry
	case api.ISelect:
		v = a&c | b&^c
	default:
		return 0, false
	}
	return int(v), true
}

func between(low, n, high int) bool { return low <= n && n <= high }

func spelledCheck(p api.IR) api.Errno {
	if spelledTooMuch(p) {
		return api.ErrLimit
	}
	ok := p.Temps >= 0 && len(p.Blocks) > 0
	for _, n := range []int{p.In, p.Out} {
		ok = ok && between(0, n, 65536) && n&3 == 0
	}
	for k, a := range p.Arrays {
		ok = ok && spelledArray(p, k, a)
	}
	for _, b := range p.Blocks {
		for _, o := range b.Ops {
			ok = ok && spelledOp(p, o)
		}
		ok = ok && spelledEnd(p, b.Term)
	}
	if !ok {
		return api.ErrArg
	}
	return api.OK
}

func spelledTooMuch(p api.IR) bool {
	ops := 0
	for _, b := range p.Blocks {
		ops += len(b.Ops)
	}
	rail := new(big.Int)
	if p.Out > 0 {
		rail.SetInt64(int64(p.Out))
	}
	for _, a := range p.Arrays {
		if a.Kind == api.ARail && between(1, a.Len, 16384) && (a.Elem == 1 || a.Elem == 4) {
			bytes := a.Elem * a.Len
			for bytes&3 != 0 {
				bytes++
			}
			rail.Add(rail, big.NewInt(int64(bytes)))
		}
	}
	return p.Temps > 1048576 || len(p.Arrays) > 1048576 || len(p.Blocks) > 1048576 || ops > 1048576 || rail.Cmp(big.NewInt(65536)) > 0
}

func spelledArray(p api.IR, k int, a api.Array) bool {
	if a.Elem != 1 && a.Elem != 4 || !between(1, a.Len, 16384) {
		return false
	}
	room := p.In
	switch a.Kind {
	case api.ARail:
		return a.Off == 0
	case api.AOut:
		room = p.Out
		for _, b := range p.Arrays[:k] {
			end := b.Off + b.Elem*b.Len
			for end&3 != 0 {
				end++
			}
			if b.Kind == api.AOut && a.Off < end {
				return false
			}
		}
	case api.AIn:
	default:
		return false
	}
	return between(0, a.Off, room) && a.Off&3 == 0 && a.Off+a.Elem*a.Len <= room
}

func spelledOp(p api.IR, o api.Op) bool {
	if !spelledIs(o) {
		return false
	}
	for _, name := range []string{"dst", "a", "b", "c"} {
		if has(o.Kind, name) && !between(0, *fieldOf(&o, name), p.Temps-1) {
			return false
		}
	}
	switch o.Kind {
	case api.IConst:
		return between(0, o.Imm, 0xffffffff)
	case api.IShl, api.IShr, api.IRor:
		return between(0, o.Imm, 31)
	case api.ILoad:
		return between(0, o.Imm, len(p.Arrays)-1)
	case api.IStore:
		return between(0, o.Imm, len(p.Arrays)-1) && p.Arrays[o.Imm].Kind != api.AIn
	}
	return true
}

func spelledEnd(p api.IR, t api.Term) bool {
	yes, no := between(-1, t.Yes, len(p.Blocks)-1), between(-1, t.No, len(p.Blocks)-1)
	switch t.Kind {
	case api.TJump:
		return yes && t.A == 0 && t.No == 0
	case api.TBranch:
		return yes && no && between(0, t.A, p.Temps-1)
	case api.THalt:
		return t.A == 0 && t.Yes == 0 && t.No == 0
	}
	return false
}

// spelledRun tells the output, the error, and how many steps were done (of a run, that is).
func spelledRun(p api.IR, input string, budget int) (string, api.Errno, int) {
	if err := spelledCheck(p); err != api.OK {
		return "", err, 0
	}
	if len(input) != p.In || budget < 0 || budget > 1<<26 {
		return "", api.ErrArg, 0
	}
	temps := make([]int, p.Temps)
	lists := make([][]int, len(p.Arrays))
	for k, a := range p.Arrays {
		for i := range a.Len {
			n := 0
			for j := a.Elem - 1; j >= 0 && a.Kind == api.AIn; j-- {
				n = n<<8 | int(input[a.Off+i*a.Elem+j])
			}
			lists[k] = append(lists[k], n)
		}
	}
	for block, place, steps := 0, 0, 0; ; {
		if block == -1 {
			return "", api.ErrTrap, steps
		}
		if steps == budget {
			return "", api.ErrBudget, steps
		}
		steps++
		ops, t := p.Blocks[block].Ops, p.Blocks[block].Term
		if place < len(ops) {
			o := ops[place]
			place++
			if o.Kind != api.ILoad && o.Kind != api.IStore {
				temps[o.Dst], _ = spelledValue(o, temps[o.A], temps[o.B], temps[o.C])
			} else if l := lists[o.Imm]; temps[o.A] >= len(l) {
				return "", api.ErrTrap, steps
			} else if o.Kind == api.ILoad {
				temps[o.Dst] = l[temps[o.A]]
			} else if p.Arrays[o.Imm].Elem == 1 {
				l[temps[o.A]] = temps[o.B] & 0xff
			} else {
				l[temps[o.A]] = temps[o.B]
			}
			continue
		}
		place = 0
		switch {
		case t.Kind == api.THalt:
			return spelledOutput(p, lists), api.OK, steps
		case t.Kind == api.TJump || temps[t.A] == 0xffffffff:
			block = t.Yes
		case temps[t.A] == 0:
			block = t.No
		default:
			return "", api.ErrTrap, steps
		}
	}
}

func spelledOutput(p api.IR, lists [][]int) string {
	out := make([]byte, p.Out)
	for k, a := range p.Arrays {
		for i, n := range lists[k] {
			for j := 0; j < a.Elem && a.Kind == api.AOut; j++ {
				out[a.Off+i*a.Elem+j] = byte(n >> (8 * j))
			}
		}
	}
	return string(out)
}
