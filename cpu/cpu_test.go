package cpu

import (
	"math"
	"math/bits"
	"testing"

	"hauberk/api"
	"hauberk/thumb"
)

// The document's conditions, by their numbers.
const (
	eq = iota
	ne
	cs
	cc
	condMi
	condPl
	condVs
	condVc
	condHi
	condLs
	condGe
	condLt
	condGt
	condLe
	conditions
)

// operations is how many operations there are, the first one being 1.
const operations = 25

// wordly are numbers that registers hold: words at their edges, and some between.
var wordly = []int{0, 1, 2, 0xff, 0x8000, 0xffff, 0x10000, 0x12345678, 1<<31 - 1, 1 << 31, 1<<31 + 1, 0x89abcdef, 0xfffffffe, 1<<32 - 1}

// wordless are numbers that are no words.
var wordless = []int{-1, -2, -1 << 31, -1<<31 - 1, -1 << 32, -1<<32 - 7, 1 << 32, 1<<32 + 1, 1<<33 - 1, 5<<40 + 0x87654321, -9<<50 + 0x123, math.MinInt, math.MinInt + 1, math.MaxInt, math.MaxInt - 1}

// values are both.
func values() []int {
	return append(append([]int{}, wordly...), wordless...)
}

// counters are numbers that a PC may hold, near both ends of words and beyond them.
var counters = []int{0, 2, 4, 64, 1<<31 - 2, 1 << 31, 1<<32 - 4, 1<<32 - 2, 1<<32 - 1, 1, -2, -4, 1 << 32, 1<<32 + 2, 3<<32 - 2, math.MinInt, math.MaxInt, math.MaxInt - 1}

// flags tells a state with the flags of a number from 0 to 15: N is worth 8, Z 4, C 2 and V 1.
func flags(s api.State, n int) api.State {
	s.N, s.Z, s.C, s.V = n&8 != 0, n&4 != 0, n&2 != 0, n&1 != 0
	return s
}

// blank tells a state of which each register is unlike the others, and some, SP and LR among them, are no words.
func blank() api.State {
	s := api.State{PC: 0x100}
	for k := range s.R {
		s.R[k] = 0x9e3779b9*(k+1) - k%3<<34
	}
	s.R[13], s.R[14] = -3, 1<<32+0x77
	return flags(s, 0b0101)
}

// cut tells a number's word.
func cut(n int) int { return int(uint32(n)) }

// cutAll tells a state of which all numbers are words.
func cutAll(s api.State) api.State {
	for k := range s.R {
		s.R[k] = cut(s.R[k])
	}
	s.PC = cut(s.PC)
	return s
}

// held tells for each condition of which flags (see the function flags) it holds: bit n is 1, if it does with those of n.
func held(cond int) int {
	switch cond {
	case eq:
		return 0b1111000011110000
	case ne:
		return 0b0000111100001111
	case cs:
		return 0b1100110011001100
	case cc:
		return 0b0011001100110011
	case condMi:
		return 0b1111111100000000
	case condPl:
		return 0b0000000011111111
	case condVs:
		return 0b1010101010101010
	case condVc:
		return 0b0101010101010101
	case condHi:
		return 0b0000110000001100
	case condLs:
		return 0b1111001111110011
	case condGe:
		return 0b1010101001010101
	case condLt:
		return 0b0101010110101010
	case condGt:
		return 0b0000101000000101
	case condLe:
		return 0b1111010111111010
	}
	return 0
}

// spelledHolds tells whether a condition holds.
func spelledHolds(s api.State, cond int) bool {
	n := 0
	for _, f := range []bool{s.N, s.Z, s.C, s.V} {
		n *= 2
		if f {
			n++
		}
	}
	return held(cond)>>n&1 == 1
}

// bitwise tells the number that is made of 32 bits, each asked for by its number.
func bitwise(bit func(k int) bool) int {
	r := 0
	for k := range 32 {
		if bit(k) {
			r |= 1 << k
		}
	}
	return r
}

// has tells whether bit k of a number is 1.
func has(n, k int) bool { return uint64(n)>>k&1 == 1 }

// spelledRd tells what an instruction makes Rd, and whether it does, by the document's words.
func spelledRd(op, d, n, m, imm, ra, loaded int) (int, bool) {
	x, y := uint32(n), uint32(m)
	switch op {
	case api.OMovw:
		return imm, true
	case api.OMovt:
		return bitwise(func(k int) bool { return k < 16 && has(d, k) || k >= 16 && has(imm, k-16) }), true
	case api.OLsl:
		return int(y << imm), true
	case api.OLsr:
		return int(y >> imm), true
	case api.OAsr:
		return int(uint32(int32(y) >> imm)), true
	case api.ORor:
		return int(bits.RotateLeft32(y, -imm)), true
	case api.OMvn:
		return int(^y), true
	case api.OAnd:
		return int(x & y), true
	case api.OBic:
		return int(x &^ y), true
	case api.OOrr:
		return int(x | y), true
	case api.OEor:
		return int(x ^ y), true
	case api.OAdd:
		return int(x + y), true
	case api.OSub:
		return int(x - y), true
	case api.OMul, api.OUmull:
		return int(x * y), true
	case api.OBfi:
		return bitwise(func(k int) bool {
			if k < imm || k >= imm+ra {
				return has(d, k)
			}
			return has(n, k-imm)
		}), true
	case api.OLdr:
		return cut(loaded), true
	case api.OLdrb:
		return int(uint8(loaded)), true
	}
	return 0, false
}

// spelled tells the state behind an instruction that is one, by the document's words.
func spelled(s api.State, i api.Ins, loaded int) (api.State, bool) {
	s = cutAll(s)
	u := s
	x, y := uint32(s.R[i.Rn]), uint32(s.R[i.Rm])
	on := len(encoded(i))
	switch i.Op {
	case api.OBkpt:
		return s, false
	case api.OB:
		on = 4 + i.Imm
	case api.OBcc:
		if spelledHolds(s, i.Cond) {
			on = 4 + i.Imm
		}
	case api.OCmp:
		less := int64(int32(x)) - int64(int32(y))
		u.N, u.Z, u.C, u.V = (x-y)>>31 == 1, x == y, x >= y, less < math.MinInt32 || less > math.MaxInt32
	}
	if r, ok := spelledRd(i.Op, s.R[i.Rd], int(x), int(y), i.Imm, i.Ra, loaded); ok {
		u.R[i.Rd] = r
	}
	if i.Op == api.OUmull {
		high, _ := bits.Mul32(x, y)
		u.R[i.Ra] = int(high)
	}
	u.PC = cut(s.PC + on)
	return u, true
}

// encoded tells an instruction's bytes.
func encoded(i api.Ins) string {
	b, _ := thumb.Encode(i)
	return b
}

// stepped fails if an instruction is none, or Step tells anything else than the document.
func stepped(t *testing.T, s api.State, i api.Ins, loaded int) {
	t.Helper()
	if e := thumb.Check(i); e != api.OK {
		t.Fatalf("%+v is no instruction: %d", i, e)
	}
	u, ok := Step(s, i, loaded)
	if want, yes := spelled(s, i, loaded); u != want || ok != yes {
		t.Errorf("Step(%+v, %+v, %#x):\ngot  %+v, %v\nwant %+v, %v", s, i, loaded, u, ok, want, yes)
	}
}

// of is an instruction of an operation, with the least that its other fields may be.
func of(op int) api.Ins {
	i := api.Ins{Op: op}
	switch op {
	case api.OLsr, api.OAsr, api.ORor:
		i.Imm = 1
	case api.OUmull, api.OBfi:
		i.Ra = 1
	}
	return i
}

// apart is one whose registers, as far as it has them, are unlike: Rd 7, Rn 3, Rm 5, Ra 1.
func apart(op int) api.Ins {
	i := of(op)
	switch op {
	case api.OMovw, api.OMovt:
		i.Rd = 7
	case api.OLsl, api.OLsr, api.OAsr, api.ORor, api.OMvn:
		i.Rd, i.Rm = 7, 5
	case api.OAnd, api.OBic, api.OOrr, api.OEor, api.OAdd, api.OSub, api.OMul, api.OUmull:
		i.Rd, i.Rn, i.Rm = 7, 3, 5
	case api.OBfi, api.OLdr, api.OStr, api.OLdrb, api.OStrb:
		i.Rd, i.Rn = 7, 3
	case api.OCmp:
		i.Rn, i.Rm = 3, 5
	}
	return i
}

// registers tells the instructions that are like one but for their registers, which are all those that they may be.
func registers(i api.Ins, f func(i api.Ins)) {
	most := [...]int{
		api.OMovw: 12, api.OMovt: 12, api.OLsl: 12, api.OLsr: 12, api.OAsr: 12, api.ORor: 12, api.OMvn: 12, api.OAnd: 12, api.OBic: 12, api.OOrr: 12, api.OEor: 12, api.OAdd: 12, api.OSub: 12, api.OMul: 12,
		api.OUmull: 12, api.OBfi: 12, api.OLdr: 7, api.OStr: 7, api.OLdrb: 7, api.OStrb: 7, api.OCmp: 7, api.OBcc: 0,
	}[i.Op]
	for d := range most + 1 {
		for n := range most + 1 {
			for m := range most + 1 {
				i.Rd, i.Rn, i.Rm = d, n, m
				if i.Op != api.OUmull {
					f(i)
					continue
				}
				for a := range most + 1 {
					i.Ra = a
					f(i)
				}
			}
		}
	}
}

// every tells one instruction, or more, of each operation: with all registers that it may have.
func every(f func(i api.Ins)) {
	for op := 1; op <= operations; op++ {
		registers(of(op), func(i api.Ins) {
			if thumb.Check(i) == api.OK {
				f(i)
			}
		})
	}
}

// nones are what is no instruction.
func nones() []api.Ins {
	l := []api.Ins{{}, {Op: -1}, {Op: operations + 1}, {Op: 1 << 32}, {Op: 1<<32 + api.OAdd}, {Op: math.MinInt}, {Op: math.MaxInt}}
	for op := 1; op <= operations; op++ {
		for _, far := range []int{-1, 16, math.MinInt, math.MaxInt, 1 << 32, 1<<32 + 1, -1 << 32} {
			i := of(op)
			i.Rd = far
			l = append(l, i)
			i = of(op)
			i.Rn = far
			l = append(l, i)
			i = of(op)
			i.Rm = far
			l = append(l, i)
			i = of(op)
			i.Cond = far
			l = append(l, i)
			if op != api.OBfi || far != 16 {
				i = of(op)
				i.Ra = far
				l = append(l, i)
			}
		}
		for _, far := range []int{math.MinInt, math.MaxInt, 1<<25 - 1, -1 << 26, 1 << 32, -1 << 32} {
			i := of(op)
			i.Imm = far
			l = append(l, i)
		}
		if op != api.OB && op != api.OBcc {
			i := of(op)
			i.Wide = true
			l = append(l, i)
		}
	}
	return append(l, nearNones()...)
}

// nearNones are those of them of which one field is just beyond what it may be.
func nearNones() []api.Ins {
	return []api.Ins{
		{Op: api.ONop, Imm: 1}, {Op: api.OBkpt, Imm: 256}, {Op: api.OBkpt, Imm: -1}, {Op: api.OMovw, Imm: 65536}, {Op: api.OMovt, Imm: -1}, {Op: api.OMovt, Rd: 13},
		{Op: api.OLsl, Imm: 32}, {Op: api.OLsl, Imm: -1}, {Op: api.OLsr}, {Op: api.OAsr}, {Op: api.ORor}, {Op: api.ORor, Imm: 32}, {Op: api.OLsl, Rm: 13},
		{Op: api.OMvn, Rn: 1}, {Op: api.OAdd, Rd: 13}, {Op: api.OAdd, Rn: 14}, {Op: api.OAdd, Rm: 15}, {Op: api.OAdd, Imm: 1}, {Op: api.OMul, Ra: 1},
		{Op: api.OUmull}, {Op: api.OUmull, Rd: 7, Ra: 7}, {Op: api.OUmull, Ra: 13}, {Op: api.OBfi}, {Op: api.OBfi, Ra: 33}, {Op: api.OBfi, Imm: 31, Ra: 2}, {Op: api.OBfi, Imm: 32, Ra: 1}, {Op: api.OBfi, Imm: 1, Ra: 1, Rm: 1},
		{Op: api.OLdr, Rd: 8}, {Op: api.OLdr, Rn: 8}, {Op: api.OStr, Rd: 8}, {Op: api.OStr, Rn: 8}, {Op: api.OLdrb, Rd: 8}, {Op: api.OLdrb, Rn: 8}, {Op: api.OStrb, Rd: 8}, {Op: api.OStrb, Rn: 8}, {Op: api.OLdr, Imm: 4}, {Op: api.OStr, Rm: 1},
		{Op: api.OCmp, Rn: 8}, {Op: api.OCmp, Rm: 8}, {Op: api.OCmp, Rd: 1},
		{Op: api.OB, Imm: 1}, {Op: api.OB, Imm: 2048}, {Op: api.OB, Imm: -2050}, {Op: api.OB, Imm: 16777216, Wide: true}, {Op: api.OB, Imm: -16777218, Wide: true}, {Op: api.OB, Cond: 1},
		{Op: api.OBcc, Imm: -1}, {Op: api.OBcc, Imm: 256}, {Op: api.OBcc, Imm: -258}, {Op: api.OBcc, Imm: 1048576, Wide: true}, {Op: api.OBcc, Imm: -1048578, Wide: true}, {Op: api.OBcc, Cond: 14}, {Op: api.OBcc, Cond: -1},
	}
}

// TestHolds: P8.1.
func TestHolds(t *testing.T) {
	for c := range conditions {
		for n := range 16 {
			want := held(c)>>n&1 == 1
			if got := Holds(flags(api.State{}, n), c); got != want {
				t.Errorf("Holds of flags %04b, %d = %v", n, c, got)
			}
			if got := Holds(flags(blank(), n), c); got != want {
				t.Errorf("Holds of flags %04b, %d = %v, with registers", n, c, got)
			}
		}
	}
	if api.EQ != eq || api.NE != ne || api.CS != cs || api.CC != cc {
		t.Error("the conditions have other numbers")
	}
}

// TestHoldsNone: P8.1, numbers that are no conditions.
func TestHoldsNone(t *testing.T) {
	for _, c := range []int{-1, -2, -14, -16, 14, 15, 16, 17, 256, 1 << 32, 1<<32 + 1, -1 << 32, math.MinInt, math.MaxInt} {
		for n := range 16 {
			if Holds(flags(blank(), n), c) {
				t.Errorf("Holds of flags %04b, %d", n, c)
			}
		}
	}
}

// TestAccess: P8.2, with registers that hold whatever numbers.
func TestAccess(t *testing.T) {
	for _, n := range values() {
		for _, d := range values() {
			s := blank()
			s.R[3], s.R[7] = d, n
			for _, x := range []struct {
				op   int
				want api.Access
			}{
				{api.OLdr, api.Access{Addr: cut(n), Size: 4}},
				{api.OLdrb, api.Access{Addr: cut(n), Size: 1}},
				{api.OStr, api.Access{Addr: cut(n), Size: 4, Value: cut(d), Write: true}},
				{api.OStrb, api.Access{Addr: cut(n), Size: 1, Value: int(uint8(d)), Write: true}},
			} {
				if a, ok := Access(s, api.Ins{Op: x.op, Rd: 3, Rn: 7}); !ok || a != x.want {
					t.Errorf("Access of operation %d, of %#x at %#x = %+v, %v, want %+v", x.op, d, n, a, ok, x.want)
				}
			}
		}
	}
}

// TestAccessRegisters: P8.2, of all instructions, each of its registers being the ones that it may be.
func TestAccessRegisters(t *testing.T) {
	s := blank()
	every(func(i api.Ins) {
		var want api.Access
		yes := true
		switch i.Op {
		case api.OLdr:
			want = api.Access{Addr: cut(s.R[i.Rn]), Size: 4}
		case api.OLdrb:
			want = api.Access{Addr: cut(s.R[i.Rn]), Size: 1}
		case api.OStr:
			want = api.Access{Addr: cut(s.R[i.Rn]), Size: 4, Value: cut(s.R[i.Rd]), Write: true}
		case api.OStrb:
			want = api.Access{Addr: cut(s.R[i.Rn]), Size: 1, Value: s.R[i.Rd] & 255, Write: true}
		default:
			yes = false
		}
		if a, ok := Access(s, i); a != want || ok != yes {
			t.Errorf("Access(%+v) = %+v, %v, want %+v, %v", i, a, ok, want, yes)
		}
	})
}

// TestNone: P8.2 to P8.4, of what is none.
func TestNone(t *testing.T) {
	for _, i := range nones() {
		if thumb.Check(i) == api.OK {
			t.Fatalf("%+v is an instruction", i)
		}
		for n := range 16 {
			s := flags(blank(), n)
			s.PC = counters[n]
			if a, ok := Access(s, i); ok || a != (api.Access{}) {
				t.Errorf("Access(%+v) = %+v, %v", i, a, ok)
			}
			if u, ok := Step(s, i, -5); ok || u != cutAll(s) {
				t.Errorf("Step(%+v, %+v) = %+v, %v", s, i, u, ok)
			}
			if c := Cycles(s, i); c != 0 {
				t.Errorf("Cycles(%+v) = %d", i, c)
			}
		}
	}
}

// TestStepSaid: P8.3, numbers that were reckoned by hand.
func TestStepSaid(t *testing.T) {
	s := api.State{PC: 0x40}
	s.R[1], s.R[2], s.R[3], s.R[4], s.R[5] = 1, 2, 0x80000001, 0xfffffffe, 0x12345678
	for _, x := range []struct {
		i           api.Ins
		want, there int
	}{
		{api.Ins{Op: api.OAdd, Rn: 1, Rm: 2}, 3, 0x44},
		{api.Ins{Op: api.OAdd, Rn: 2, Rm: 4}, 0, 0x44},
		{api.Ins{Op: api.OSub, Rn: 1, Rm: 2}, 0xffffffff, 0x44},
		{api.Ins{Op: api.OMul, Rn: 4, Rm: 4}, 4, 0x44},
		{api.Ins{Op: api.OAnd, Rn: 3, Rm: 4}, 0x80000000, 0x44},
		{api.Ins{Op: api.OBic, Rn: 4, Rm: 3}, 0x7ffffffe, 0x44},
		{api.Ins{Op: api.OOrr, Rn: 1, Rm: 2}, 3, 0x44},
		{api.Ins{Op: api.OEor, Rn: 3, Rm: 1}, 0x80000000, 0x44},
		{api.Ins{Op: api.OMvn, Rm: 1}, 0xfffffffe, 0x44},
		{api.Ins{Op: api.OLsl, Rm: 3, Imm: 1}, 2, 0x44},
		{api.Ins{Op: api.OLsr, Rm: 3, Imm: 31}, 1, 0x44},
		{api.Ins{Op: api.OAsr, Rm: 3, Imm: 31}, 0xffffffff, 0x44},
		{api.Ins{Op: api.ORor, Rm: 3, Imm: 1}, 0xc0000000, 0x44},
		{api.Ins{Op: api.OMovw, Imm: 0xabcd}, 0xabcd, 0x44},
		{api.Ins{Op: api.OMovt, Imm: 0xabcd}, 0xabcd0000, 0x44},
		{api.Ins{Op: api.OBfi, Rn: 5, Imm: 8, Ra: 12}, 0x67800, 0x44},
		{api.Ins{Op: api.OUmull, Ra: 9, Rn: 4, Rm: 2}, 0xfffffffc, 0x44},
		{api.Ins{Op: api.OLdr}, 0xcafef00d, 0x42},
		{api.Ins{Op: api.OLdrb}, 0x0d, 0x42},
		{api.Ins{Op: api.OStr}, 0, 0x42},
		{api.Ins{Op: api.OB, Imm: -4}, 0, 0x40},
		{api.Ins{Op: api.OBcc, Cond: ne, Imm: -0x44}, 0, 0},
		{api.Ins{Op: api.OBcc, Cond: eq, Imm: -0x44}, 0, 0x42},
	} {
		u, ok := Step(s, x.i, 0xcafef00d)
		if !ok || u.R[0] != x.want || u.PC != x.there {
			t.Errorf("Step(%+v): %v, register 0 is %#x, PC %#x, want %#x, %#x", x.i, ok, u.R[0], u.PC, x.want, x.there)
		}
	}
	if u, _ := Step(s, api.Ins{Op: api.OUmull, Ra: 9, Rn: 4, Rm: 2}, 0); u.R[9] != 1 {
		t.Errorf("Ra of OUmull: %#x", u.R[9])
	}
}

// TestStepValues: P8.3, each operation with registers that hold whatever numbers.
func TestStepValues(t *testing.T) {
	for op := 1; op <= operations; op++ {
		i := apart(op)
		for k, n := range values() {
			for l, m := range values() {
				s := flags(blank(), (k+3*l)%16)
				s.R[3], s.R[5] = n, m
				s.R[7], s.PC = values()[(k*l+k)%len(values())], counters[(k+l)%len(counters)]
				stepped(t, s, i, m)
			}
		}
	}
}

// TestStepRegisters: P8.3, each operation with all registers that it may have, alike and apart.
func TestStepRegisters(t *testing.T) {
	every(func(i api.Ins) {
		stepped(t, blank(), i, 0x1feedbeef)
	})
}

// TestStepShifts: P8.3, shifts by each number.
func TestStepShifts(t *testing.T) {
	for _, op := range []int{api.OLsl, api.OLsr, api.OAsr, api.ORor} {
		for by := of(op).Imm; by < 32; by++ {
			for _, m := range values() {
				s := blank()
				s.R[12] = m
				stepped(t, s, api.Ins{Op: op, Rd: 1, Rm: 12, Imm: by}, 0)
				stepped(t, s, api.Ins{Op: op, Rd: 12, Rm: 12, Imm: by}, 0)
			}
		}
	}
}

// TestStepHalves: P8.3, OMovw and OMovt, with all numbers that Imm may be, and whatever Rd was.
func TestStepHalves(t *testing.T) {
	for imm := range 65536 {
		s := blank()
		s.R[12] = values()[imm%len(values())]
		stepped(t, s, api.Ins{Op: api.OMovw, Rd: 12, Imm: imm}, 0)
		stepped(t, s, api.Ins{Op: api.OMovt, Rd: 12, Imm: imm}, 0)
	}
	for _, d := range values() {
		s := blank()
		s.R[0] = d
		for _, imm := range []int{0, 1, 0x7fff, 0x8000, 0xffff} {
			stepped(t, s, api.Ins{Op: api.OMovt, Imm: imm}, 0)
		}
	}
}

// TestStepFields: P8.3, OBfi with all fields, Rd and Rn apart and alike.
func TestStepFields(t *testing.T) {
	for from := range 32 {
		for wide := 1; wide <= 32-from; wide++ {
			for k, n := range values() {
				s := blank()
				s.R[4], s.R[9] = n, values()[(k*7+from+wide)%len(values())]
				stepped(t, s, api.Ins{Op: api.OBfi, Rd: 9, Rn: 4, Imm: from, Ra: wide}, 0)
				stepped(t, s, api.Ins{Op: api.OBfi, Rd: 4, Rn: 4, Imm: from, Ra: wide}, 0)
				s.R[9] = 1<<32 - 1 - cut(n)
				stepped(t, s, api.Ins{Op: api.OBfi, Rd: 9, Rn: 4, Imm: from, Ra: wide}, 0)
			}
		}
	}
}

// TestStepProducts: P8.3, OUmull with Rn and Rm apart from Rd and Ra and among them, of whatever numbers.
func TestStepProducts(t *testing.T) {
	for _, n := range values() {
		for _, m := range values() {
			s := blank()
			s.R[1], s.R[2] = n, m
			for _, r := range [][2]int{{3, 4}, {1, 2}, {2, 1}, {1, 3}, {3, 1}, {2, 3}, {3, 2}} {
				stepped(t, s, api.Ins{Op: api.OUmull, Rd: r[0], Ra: r[1], Rn: 1, Rm: 2}, 0)
				stepped(t, s, api.Ins{Op: api.OUmull, Rd: r[0], Ra: r[1], Rn: 1, Rm: 1}, 0)
			}
		}
	}
}

// TestStepLoaded: P8.3, whatever was loaded.
func TestStepLoaded(t *testing.T) {
	for _, v := range append(values(), 0x80, 0x100, 0x1ff, -0x100, -0x80, 1<<32+0x1fe) {
		for _, r := range [][2]int{{0, 7}, {7, 0}, {7, 7}} {
			stepped(t, blank(), api.Ins{Op: api.OLdr, Rd: r[0], Rn: r[1]}, v)
			stepped(t, blank(), api.Ins{Op: api.OLdrb, Rd: r[0], Rn: r[1]}, v)
		}
		if u, _ := Step(blank(), api.Ins{Op: api.OLdrb, Rd: 2}, v); u.R[2] != v&255 {
			t.Errorf("OLdrb of %#x: %#x", v, u.R[2])
		}
	}
}

// TestStepNotLoaded: P8.3, what was loaded is of no other instruction.
func TestStepNotLoaded(t *testing.T) {
	every(func(i api.Ins) {
		if i.Op == api.OLdr || i.Op == api.OLdrb || i.Op == api.OUmull && i.Ra > 1 {
			return
		}
		u, ok := Step(blank(), i, 0)
		if v, yes := Step(blank(), i, math.MinInt+0x1235); u != v || ok != yes {
			t.Errorf("Step(%+v) hangs on what was loaded: %+v and %+v", i, u, v)
		}
	})
}

// TestStepCompared: P8.3, the flags behind OCmp, whatever they were.
func TestStepCompared(t *testing.T) {
	for _, n := range values() {
		for _, m := range values() {
			for f := range 16 {
				s := flags(blank(), f)
				s.R[7], s.R[2] = n, m
				stepped(t, s, api.Ins{Op: api.OCmp, Rn: 7, Rm: 2}, 0)
			}
			s := blank()
			s.R[7] = n
			stepped(t, s, api.Ins{Op: api.OCmp, Rn: 7, Rm: 7}, 0)
		}
	}
	for _, x := range []struct {
		n, m        int
		fn, z, c, v bool
	}{
		{0, 0, false, true, true, false},
		{0, 1, true, false, false, false},
		{1 << 31, 1, false, false, true, true},
		{1<<31 - 1, 1<<32 - 1, true, false, false, true},
		{1<<32 - 1, 1<<31 - 1, true, false, true, false},
		{1<<31 - 1, 1 << 31, true, false, false, true},
		{0, 1 << 31, true, false, false, true},
	} {
		s := api.State{}
		s.R[0], s.R[1] = x.n, x.m
		if u, ok := Step(s, api.Ins{Op: api.OCmp, Rm: 1}, 0); !ok || u.N != x.fn || u.Z != x.z || u.C != x.c || u.V != x.v {
			t.Errorf("flags of %#x and %#x: %v %v %v %v", x.n, x.m, u.N, u.Z, u.C, u.V)
		}
	}
}

// branches tells branches at the edges of their reach and near 0.
func branches() []api.Ins {
	var l []api.Ins
	for _, wide := range []bool{false, true} {
		for _, op := range []int{api.OB, api.OBcc} {
			low, high := thumb.Reach(op, wide)
			for _, imm := range []int{low, low + 2, -8, -6, -4, -2, 0, 2, 4, high - 2, high} {
				l = append(l, api.Ins{Op: op, Imm: imm, Wide: wide})
				for c := 1; op == api.OBcc && c < conditions; c++ {
					l = append(l, api.Ins{Op: op, Imm: imm, Cond: c, Wide: wide})
				}
			}
		}
	}
	return l
}

// TestStepBranches: P8.3, branches that are taken and not, forwards and backwards, over both ends of words.
func TestStepBranches(t *testing.T) {
	for _, i := range branches() {
		for _, pc := range counters {
			for f := range 16 {
				s := flags(blank(), f)
				s.PC = pc
				stepped(t, s, i, 0)
			}
		}
	}
}

// TestStepOn: P8.3, the PC behind an instruction that is no branch.
func TestStepOn(t *testing.T) {
	for op := 1; op < api.OB; op++ {
		on := 4
		switch op {
		case api.ONop, api.OLdr, api.OStr, api.OLdrb, api.OStrb, api.OCmp:
			on = 2
		case api.OBkpt:
			on = 0
		}
		for _, pc := range counters {
			s := blank()
			s.PC = pc
			u, ok := Step(s, of(op), 0)
			if want := cut(pc + on); u.PC != want || ok != (op != api.OBkpt) {
				t.Errorf("the PC behind operation %d at %#x: %#x, want %#x", op, pc, u.PC, want)
			}
		}
	}
}

// TestStepStops: P8.3, of OBkpt the state's words, and false.
func TestStepStops(t *testing.T) {
	for imm := range 256 {
		s := flags(blank(), imm%16)
		s.PC = counters[imm%len(counters)]
		if u, ok := Step(s, api.Ins{Op: api.OBkpt, Imm: imm}, 7); ok || u != cutAll(s) {
			t.Errorf("Step of OBkpt %d: %+v, %v, want %+v", imm, u, ok, cutAll(s))
		}
	}
}

// TestStepLeaves: P8.3, no other register and no other flag changes.
func TestStepLeaves(t *testing.T) {
	every(func(i api.Ins) {
		if i.Op == api.OUmull && i.Rm > 2 {
			return
		}
		s := cutAll(blank())
		u, _ := Step(s, i, 0x55)
		for k := range s.R {
			made := i.Op >= api.OMovw && i.Op <= api.OLdr || i.Op == api.OLdrb
			if u.R[k] != s.R[k] && !(made && k == i.Rd) && !(i.Op == api.OUmull && k == i.Ra) {
				t.Errorf("Step(%+v) changes register %d", i, k)
			}
		}
		if i.Op != api.OCmp && (u.N != s.N || u.Z != s.Z || u.C != s.C || u.V != s.V) {
			t.Errorf("Step(%+v) changes a flag", i)
		}
	})
}

// TestCycles: P8.4, of instructions that are no branches, whatever the state.
func TestCycles(t *testing.T) {
	every(func(i api.Ins) {
		if i.Op == api.OB || i.Op == api.OBcc {
			return
		}
		want := 1
		switch i.Op {
		case api.OLdr, api.OStr, api.OLdrb, api.OStrb:
			want = 2
		case api.OUmull:
			want = 4
		}
		for _, s := range []api.State{{}, blank(), flags(blank(), 15)} {
			if c := Cycles(s, i); c != want {
				t.Errorf("Cycles(%+v) = %d, want %d", i, c, want)
			}
		}
	})
}

// TestCyclesBranches: P8.4, of branches that are taken and not.
func TestCyclesBranches(t *testing.T) {
	for _, i := range branches() {
		for f := range 16 {
			want := 1
			if i.Op == api.OB || held(i.Cond)>>f&1 == 1 {
				want = 3
			}
			if c := Cycles(flags(blank(), f), i); c != want {
				t.Errorf("Cycles of flags %04b, %+v = %d, want %d", f, i, c, want)
			}
		}
	}
}

// outOf tells whether an instruction makes registers, and none out of itself: OMovt and OBfi keep a part of Rd, which stays what it was.
func outOf(i api.Ins) bool {
	switch i.Op {
	case api.OMovw, api.OMovt:
		return true
	case api.OLsl, api.OLsr, api.OAsr, api.ORor, api.OMvn:
		return i.Rd != i.Rm
	case api.OAnd, api.OBic, api.OOrr, api.OEor, api.OAdd, api.OSub, api.OMul:
		return i.Rd != i.Rn && i.Rd != i.Rm
	case api.OUmull:
		return i.Rd != i.Rn && i.Rd != i.Rm && i.Ra != i.Rn && i.Ra != i.Rm
	case api.OBfi:
		return i.Rd != i.Rn
	}
	return false
}

// twice fails if an instruction, done again, makes something else.
func twice(t *testing.T, s api.State, i api.Ins) {
	t.Helper()
	once, ok := Step(s, i, 0)
	again, yes := Step(once, i, 0)
	if again.PC = once.PC; !ok || !yes || again != once {
		t.Errorf("twice %+v: %+v, and once %+v", i, again, once)
	}
}

// TestTwice: P8.5.
func TestTwice(t *testing.T) {
	seen := 0
	every(func(i api.Ins) {
		if outOf(i) {
			twice(t, blank(), i)
			seen++
		}
	})
	// 13 of each of OMovw and OMovt, 13 by 12 of what is made of one register, 13 by 12 by 12 of two; of OUmull, whose Rd and Ra are apart, 13 by 12 by 11 by 11.
	if want := 2*13 + 6*13*12 + 7*13*12*12 + 13*12*11*11; seen != want {
		t.Errorf("%d instructions, want %d", seen, want)
	}
	for _, n := range values() {
		for _, m := range values() {
			s := blank()
			s.R[1], s.R[2], s.R[3] = n, m, n-m
			for op := api.OAnd; op <= api.OMul; op++ {
				twice(t, s, api.Ins{Op: op, Rd: 3, Rn: 1, Rm: 2})
			}
			for by := 1; by < 32; by++ {
				twice(t, s, api.Ins{Op: api.OLsl, Rd: 3, Rm: 1, Imm: by})
				twice(t, s, api.Ins{Op: api.OLsr, Rd: 3, Rm: 1, Imm: by})
				twice(t, s, api.Ins{Op: api.OAsr, Rd: 3, Rm: 1, Imm: by})
				twice(t, s, api.Ins{Op: api.ORor, Rd: 3, Rm: 1, Imm: by})
				twice(t, s, api.Ins{Op: api.OBfi, Rd: 3, Rn: 1, Imm: by, Ra: 32 - by})
			}
			twice(t, s, api.Ins{Op: api.OMvn, Rd: 3, Rm: 1})
			twice(t, s, api.Ins{Op: api.OMovt, Rd: 3, Imm: cut(m) >> 16})
			twice(t, s, api.Ins{Op: api.OUmull, Rd: 3, Ra: 4, Rn: 1, Rm: 2})
		}
	}
}

// neighbours tells words that are neighbours, and some that are far from one another, on both sides of 2^31.
func neighbours() []int {
	var l []int
	for _, at := range []int{0, 1 << 16, 1 << 30, 1 << 31, 3 << 30, 1 << 32} {
		for n := at - 3; n <= at+3; n++ {
			l = append(l, n)
		}
	}
	return append(l, values()...)
}

// TestCompared: P8.6.
func TestCompared(t *testing.T) {
	for k, n := range neighbours() {
		for l, m := range neighbours() {
			s := flags(blank(), (k+5*l)%16)
			s.R[0], s.R[1] = n, m
			s, _ = Step(s, api.Ins{Op: api.OCmp, Rn: 0, Rm: 1}, 0)
			x, y := uint32(n), uint32(m)
			for c, want := range map[int]bool{
				eq: x == y, ne: x != y,
				cs: x >= y, cc: x < y, condHi: x > y, condLs: x <= y,
				condGe: int32(x) >= int32(y), condLt: int32(x) < int32(y), condGt: int32(x) > int32(y), condLe: int32(x) <= int32(y),
				condMi: int32(x-y) < 0, condPl: int32(x-y) >= 0,
			} {
				if got := Holds(s, c); got != want {
					t.Errorf("behind OCmp of %#x and %#x condition %d: %v", n, m, c, got)
				}
			}
		}
	}
}
