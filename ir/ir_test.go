package ir

import (
	"reflect"
	"slices"
	"strings"
	"testing"

	"hauberk/api"
)

const (
	least    = -1 << 63
	greatest = 1<<63 - 1
)

var (
	halt = api.Term{Kind: api.THalt}
	// binary are the kinds that make something of two temps.
	binary = []int{api.IAdd, api.ISub, api.IMul, api.IHigh, api.IAnd, api.IOr, api.IXor, api.ILess, api.ISame, api.ICarry}
	shifts = []int{api.IShl, api.IShr, api.IRor}
)

// jump tells an end that goes on with a block.
func jump(b int) api.Term { return api.Term{Kind: api.TJump, Yes: b} }

// branch tells an end that asks a temp.
func branch(a, yes, no int) api.Term { return api.Term{Kind: api.TBranch, A: a, Yes: yes, No: no} }

// con tells an operation that makes a temp a number.
func con(dst, n int) api.Op { return api.Op{Kind: api.IConst, Dst: dst, Imm: n} }

// block tells a block.
func block(t api.Term, l ...api.Op) api.Block { return api.Block{Ops: l, Term: t} }

// store tells an operation that stores a temp in an array at the index in another one.
func store(array, index, temp int) api.Op {
	return api.Op{Kind: api.IStore, A: index, B: temp, Imm: array}
}

// load tells an operation that loads an array's element at the index in a temp.
func load(dst, array, index int) api.Op {
	return api.Op{Kind: api.ILoad, Dst: dst, A: index, Imm: array}
}

// checked fails, if Check does not tell that of a program, or the words that are spelled a second time do not.
func checked(t *testing.T, what any, p api.IR, want api.Errno) {
	t.Helper()
	if err := Check(p); err != want {
		t.Errorf("%v: %d; wanted %d", what, err, want)
	}
	if err := spelledCheck(p); err != want {
		t.Errorf("%v: spelled as %d; wanted %d", what, err, want)
	}
}

// runs fails, if Run does not tell that of a program, or the words that are spelled a second time do not.
func runs(t *testing.T, what any, p api.IR, input string, budget int, want string, err api.Errno) {
	t.Helper()
	if out, e := Run(p, input, budget); out != want || e != err {
		t.Errorf("%v of %x: %x, error %d; wanted %x, error %d", what, input, out, e, want, err)
	}
	if out, e, _ := spelledRun(p, input, budget); out != want || e != err {
		t.Errorf("%v of %x: spelled as %x, error %d; wanted %x, error %d", what, input, out, e, want, err)
	}
}

// steps fails, if a program does not make that output, or trap, in exactly so many steps.
func steps(t *testing.T, what any, p api.IR, input string, n int, want string, err api.Errno) {
	t.Helper()
	for _, budget := range []int{n, n + 1, Steps} {
		runs(t, what, p, input, budget, want, err)
	}
	if n > 0 {
		runs(t, what, p, input, n-1, "", api.ErrBudget)
	}
	runs(t, what, p, input, 0, "", api.ErrBudget)
}

// small is a program of 5 temps, 3 arrays (one of each kind, with one of bytes among them), and 3 blocks.
func small() api.IR {
	return api.IR{
		Temps: 5, In: 8, Out: 8,
		Arrays: []api.Array{{Elem: 4, Len: 2, Kind: api.AIn}, {Elem: 1, Len: 3, Kind: api.AOut, Off: 4}, {Elem: 4, Len: 1}},
		Blocks: []api.Block{block(jump(1)), block(branch(4, 2, 1)), block(halt)},
	}
}

// with tells the small program with operations in its second block.
func with(l ...api.Op) api.IR {
	p := small()
	p.Blocks[1].Ops = l
	return p
}

// P17.1: each kind of operation, each of its fields at its bounds and behind them, and each other field at another number than 0.
func TestCheckFields(t *testing.T) {
	checked(t, "small", small(), api.OK)
	for kind := 1; kind <= 19; kind++ {
		checked(t, kind, with(api.Op{Kind: kind, Imm: imm(kind)}), api.OK)
		for _, name := range namesOfFields {
			for _, n := range []int{least, -1 << 32, -1, 0, 1, 2, 3, 4, 5, 6, 31, 32, 1<<32 - 1, 1 << 32, greatest} {
				o := api.Op{Kind: kind, Imm: imm(kind)}
				*fieldOf(&o, name) = n
				want := api.ErrArg
				if n == 0 && name != "imm" || has(kind, name) && mayBe(kind, name, n) || name == "imm" && n == 0 && kind != api.IStore {
					want = api.OK
				}
				checked(t, o, with(o), want)
				checked(t, o, with(con(1, 1), o, con(1, 1)), want)
			}
		}
	}
}

// imm tells a number that an operation of the small program may have: an array that may be stored in.
func imm(kind int) int {
	if kind == api.IStore {
		return 2
	}
	return 0
}

// mayBe tells which numbers a field of the small program's operations may have.
func mayBe(kind int, name string, n int) bool {
	switch {
	case name != "imm":
		return n >= 0 && n <= 4
	case kind == api.IConst:
		return n >= 0 && n <= 4294967295
	case kind == api.ILoad:
		return n == 0 || n == 1 || n == 2
	case kind == api.IStore:
		return n == 1 || n == 2
	}
	return n >= 0 && n <= 31
}

func TestCheckKinds(t *testing.T) {
	for _, kind := range []int{least, -256, -19, -1, 0, 20, 21, 32, 1<<32 + 1, greatest} {
		checked(t, kind, with(api.Op{Kind: kind}), api.ErrArg)
		checked(t, kind, with(api.Op{Kind: kind, Dst: 1, A: 2}), api.ErrArg)
		checked(t, kind, with(con(0, 0), api.Op{Kind: kind}), api.ErrArg)
	}
}

// All that is written out by hand, besides what goes over fields.
func TestCheckWrittenOut(t *testing.T) {
	for _, x := range []struct {
		o   api.Op
		err api.Errno
	}{
		{con(4, 0), api.OK},
		{con(4, 1<<32-1), api.OK},
		{con(4, 1<<32), api.ErrArg},
		{con(4, -1), api.ErrArg},
		{con(5, 0), api.ErrArg},
		{con(-1, 0), api.ErrArg},
		{api.Op{Kind: api.IConst, A: 1}, api.ErrArg},
		{api.Op{Kind: api.ICopy, Dst: 4, A: 4}, api.OK},
		{api.Op{Kind: api.ICopy, Dst: 4, A: 5}, api.ErrArg},
		{api.Op{Kind: api.ICopy, Imm: 1}, api.ErrArg},
		{api.Op{Kind: api.IAdd, Dst: 4, A: 3, B: 4}, api.OK},
		{api.Op{Kind: api.IAdd, Dst: 4, A: 3, B: 5}, api.ErrArg},
		{api.Op{Kind: api.IAdd, Dst: 4, A: 3, B: 4, C: 1}, api.ErrArg},
		{api.Op{Kind: api.INot, Dst: 4, A: 3, B: 1}, api.ErrArg},
		{api.Op{Kind: api.IShl, Dst: 4, A: 3, Imm: 31}, api.OK},
		{api.Op{Kind: api.IShr, Dst: 4, A: 3, Imm: 32}, api.ErrArg},
		{api.Op{Kind: api.IRor, Dst: 4, A: 3, Imm: -1}, api.ErrArg},
		{api.Op{Kind: api.ISelect, Dst: 4, A: 4, B: 4, C: 4}, api.OK},
		{api.Op{Kind: api.ISelect, Dst: 4, A: 4, B: 4, C: 5}, api.ErrArg},
		{api.Op{Kind: api.ISelect, Dst: 4, A: 4, B: 4, C: 4, Imm: 1}, api.ErrArg},
		{load(4, 0, 4), api.OK},
		{load(4, 2, 4), api.OK},
		{load(4, 3, 4), api.ErrArg},
		{load(4, -1, 4), api.ErrArg},
		{store(0, 4, 4), api.ErrArg},
		{store(1, 4, 4), api.OK},
		{store(2, 4, 4), api.OK},
		{store(3, 4, 4), api.ErrArg},
		{store(-1, 4, 4), api.ErrArg},
		{api.Op{Kind: api.IStore, Dst: 1, Imm: 2}, api.ErrArg},
	} {
		checked(t, x.o, with(x.o), x.err)
	}
	none := api.IR{Temps: 1, Blocks: []api.Block{block(halt, load(0, 0, 0))}}
	checked(t, "no array to load from", none, api.ErrArg)
	none.Blocks[0].Ops[0] = store(0, 0, 0)
	checked(t, "no array to store in", none, api.ErrArg)
}

func TestCheckEnds(t *testing.T) {
	for _, x := range []struct {
		end api.Term
		err api.Errno
	}{
		{jump(-1), api.OK}, {jump(0), api.OK}, {jump(2), api.OK},
		{jump(-2), api.ErrArg}, {jump(3), api.ErrArg}, {jump(least), api.ErrArg}, {jump(greatest), api.ErrArg},
		{api.Term{Kind: api.TJump, No: 1}, api.ErrArg}, {api.Term{Kind: api.TJump, A: 1}, api.ErrArg}, {api.Term{Kind: api.TJump, No: -1}, api.ErrArg},
		{branch(0, -1, -1), api.OK}, {branch(4, 0, 2), api.OK}, {branch(4, 2, 0), api.OK}, {branch(4, 2, 2), api.OK},
		{branch(5, 0, 0), api.ErrArg}, {branch(-1, 0, 0), api.ErrArg}, {branch(greatest, 0, 0), api.ErrArg},
		{branch(0, -2, 0), api.ErrArg}, {branch(0, 3, 0), api.ErrArg}, {branch(0, 0, -2), api.ErrArg}, {branch(0, 0, 3), api.ErrArg},
		{halt, api.OK},
		{api.Term{Kind: api.THalt, A: 1}, api.ErrArg}, {api.Term{Kind: api.THalt, Yes: 1}, api.ErrArg}, {api.Term{Kind: api.THalt, No: 1}, api.ErrArg},
		{api.Term{Kind: api.THalt, Yes: -1}, api.ErrArg}, {api.Term{Kind: api.THalt, No: -1}, api.ErrArg},
		{api.Term{}, api.ErrArg}, {api.Term{Kind: 4}, api.ErrArg}, {api.Term{Kind: -1}, api.ErrArg}, {api.Term{Kind: least}, api.ErrArg},
	} {
		for k := range 3 {
			p := small()
			p.Blocks[k].Term = x.end
			checked(t, x.end, p, x.err)
		}
	}
	p := api.IR{Blocks: []api.Block{block(branch(0, 0, 0))}}
	checked(t, "a branch without a temp", p, api.ErrArg)
	p.Temps = 1
	checked(t, "a branch with a temp", p, api.OK)
}

func TestCheckArrays(t *testing.T) {
	rail := func(elem, n int) api.Array { return api.Array{Elem: elem, Len: n} }
	in := func(elem, n, off int) api.Array { return api.Array{Elem: elem, Len: n, Kind: api.AIn, Off: off} }
	out := func(elem, n, off int) api.Array { return api.Array{Elem: elem, Len: n, Kind: api.AOut, Off: off} }
	for _, x := range []struct {
		l   []api.Array
		err api.Errno
	}{
		{[]api.Array{}, api.OK},
		{[]api.Array{rail(1, 1)}, api.OK}, {[]api.Array{rail(4, 1)}, api.OK},
		{[]api.Array{rail(0, 1)}, api.ErrArg}, {[]api.Array{rail(2, 1)}, api.ErrArg}, {[]api.Array{rail(3, 1)}, api.ErrArg}, {[]api.Array{rail(8, 1)}, api.ErrArg}, {[]api.Array{rail(-1, 1)}, api.ErrArg}, {[]api.Array{rail(-4, -1)}, api.ErrArg}, {[]api.Array{rail(5, 1)}, api.ErrArg},
		{[]api.Array{rail(1, 0)}, api.ErrArg}, {[]api.Array{rail(4, 0)}, api.ErrArg}, {[]api.Array{rail(4, -1)}, api.ErrArg},
		{[]api.Array{rail(1, 16384)}, api.OK}, {[]api.Array{rail(1, 16385)}, api.ErrArg}, {[]api.Array{rail(4, 16385)}, api.ErrArg}, {[]api.Array{rail(4, greatest)}, api.ErrArg}, {[]api.Array{rail(4, 1<<62)}, api.ErrArg},
		{[]api.Array{{Elem: 4, Len: 1, Off: 4}}, api.ErrArg}, {[]api.Array{{Elem: 4, Len: 1, Off: -4}}, api.ErrArg},
		{[]api.Array{{Elem: 4, Len: 1, Kind: 3}}, api.ErrArg}, {[]api.Array{{Elem: 4, Len: 1, Kind: -1}}, api.ErrArg},
		{[]api.Array{in(4, 4, 0)}, api.OK}, {[]api.Array{in(4, 5, 0)}, api.ErrArg}, {[]api.Array{in(4, 4, 4)}, api.ErrArg}, {[]api.Array{in(4, 3, 4)}, api.OK},
		{[]api.Array{in(1, 16, 0)}, api.OK}, {[]api.Array{in(1, 17, 0)}, api.ErrArg}, {[]api.Array{in(1, 4, 12)}, api.OK}, {[]api.Array{in(1, 5, 12)}, api.ErrArg}, {[]api.Array{in(1, 1, 16)}, api.ErrArg},
		{[]api.Array{in(1, 1, 1)}, api.ErrArg}, {[]api.Array{in(1, 1, 2)}, api.ErrArg}, {[]api.Array{in(1, 1, 3)}, api.ErrArg}, {[]api.Array{in(1, 1, -4)}, api.ErrArg}, {[]api.Array{in(1, 1, least)}, api.ErrArg}, {[]api.Array{in(4, 2, greatest-3)}, api.ErrArg}, {[]api.Array{in(4, 16384, greatest-3)}, api.ErrArg},
		{[]api.Array{in(4, 0, 0)}, api.ErrArg}, {[]api.Array{in(2, 1, 0)}, api.ErrArg}, {[]api.Array{in(0, 1, 0)}, api.ErrArg},
		{[]api.Array{in(4, 4, 0), in(1, 16, 0), in(4, 1, 4)}, api.OK},
		{[]api.Array{out(4, 3, 0)}, api.OK}, {[]api.Array{out(4, 4, 0)}, api.ErrArg}, {[]api.Array{out(4, 3, 4)}, api.ErrArg}, {[]api.Array{out(4, 2, 4)}, api.OK},
		{[]api.Array{out(1, 12, 0)}, api.OK}, {[]api.Array{out(1, 13, 0)}, api.ErrArg}, {[]api.Array{out(1, 4, 8)}, api.OK}, {[]api.Array{out(1, 5, 8)}, api.ErrArg}, {[]api.Array{out(1, 1, 12)}, api.ErrArg},
		{[]api.Array{out(1, 1, 1)}, api.ErrArg}, {[]api.Array{out(1, 1, 2)}, api.ErrArg}, {[]api.Array{out(1, 1, -4)}, api.ErrArg}, {[]api.Array{out(4, 1, -4)}, api.ErrArg}, {[]api.Array{out(4, 2, greatest-3)}, api.ErrArg},
		{[]api.Array{out(4, 0, 0)}, api.ErrArg}, {[]api.Array{out(2, 1, 0)}, api.ErrArg},
		{[]api.Array{out(1, 5, 0), out(4, 1, 8)}, api.OK}, {[]api.Array{out(1, 5, 0), out(4, 1, 4)}, api.ErrArg}, {[]api.Array{out(1, 4, 0), out(4, 1, 4)}, api.OK},
		{[]api.Array{out(4, 1, 4), out(4, 1, 0)}, api.ErrArg}, {[]api.Array{out(4, 1, 0), out(4, 1, 0)}, api.ErrArg}, {[]api.Array{out(4, 1, 0), out(4, 1, 8)}, api.OK},
		{[]api.Array{out(4, 1, 0), out(4, 1, 4), out(4, 1, 8)}, api.OK}, {[]api.Array{out(4, 1, 0), out(4, 1, 8), out(4, 1, 4)}, api.ErrArg},
		{[]api.Array{out(4, 1, 0), rail(4, 1), in(4, 1, 0), out(4, 1, 4)}, api.OK}, {[]api.Array{out(4, 1, 4), rail(4, 1), in(4, 1, 12), out(4, 1, 4)}, api.ErrArg},
		{[]api.Array{in(4, 1, 12), out(4, 1, 0), in(4, 1, 0)}, api.OK},
	} {
		p := api.IR{In: 16, Out: 12, Arrays: x.l, Blocks: []api.Block{block(halt)}}
		checked(t, x.l, p, x.err)
	}
}

func TestCheckNumbers(t *testing.T) {
	for _, x := range []struct {
		temps, in, out int
		err            api.Errno
	}{
		{0, 0, 0, api.OK}, {0, 4, 8, api.OK}, {1, 65536, 0, api.OK}, {1, 65536, 65536, api.OK},
		{-1, 0, 0, api.ErrArg}, {least, 0, 0, api.ErrArg},
		{0, 1, 0, api.ErrArg}, {0, 2, 0, api.ErrArg}, {0, 3, 0, api.ErrArg}, {0, -4, 0, api.ErrArg}, {0, -1, 0, api.ErrArg}, {0, 65535, 0, api.ErrArg}, {0, 65540, 0, api.ErrArg}, {0, 65537, 0, api.ErrArg}, {0, greatest, 0, api.ErrArg}, {0, least, 0, api.ErrArg}, {0, greatest - 3, 0, api.ErrArg},
		{0, 0, 1, api.ErrArg}, {0, 0, 2, api.ErrArg}, {0, 0, 3, api.ErrArg}, {0, 0, -4, api.ErrArg}, {0, 0, -1, api.ErrArg}, {0, 0, 65535, api.ErrArg}, {0, 0, least, api.ErrArg},
		{0, 0, 65537, api.ErrLimit}, {0, 0, 65540, api.ErrLimit}, {0, 0, greatest, api.ErrLimit}, {0, 0, greatest - 3, api.ErrLimit},
		{1 << 20, 0, 0, api.OK}, {1<<20 + 1, 0, 0, api.ErrLimit}, {greatest, 0, 0, api.ErrLimit},
		{-1, 65540, 65540, api.ErrLimit}, {1<<20 + 1, -1, -1, api.ErrLimit},
	} {
		checked(t, x, api.IR{Temps: x.temps, In: x.in, Out: x.out, Blocks: []api.Block{block(halt)}}, x.err)
	}
	checked(t, "no block", api.IR{}, api.ErrArg)
	checked(t, "no block", api.IR{Temps: 1, Arrays: []api.Array{{Elem: 4, Len: 1}}, Blocks: []api.Block{}}, api.ErrArg)
	checked(t, "no block, and too many temps", api.IR{Temps: Most + 1}, api.ErrLimit)
}

// P17.1: the bytes of a rail are counted of its arrays, each made up to a multiple of 4, and of the output.
func TestCheckRail(t *testing.T) {
	words := api.Array{Elem: 4, Len: 16383}
	one := api.Array{Elem: 1, Len: 1}
	five := api.Array{Elem: 1, Len: 5}
	of := func(out int, l ...api.Array) api.IR {
		return api.IR{Out: out, Arrays: l, Blocks: []api.Block{block(halt)}}
	}
	all := api.Array{Elem: 4, Len: 16384}
	bytes := api.Array{Elem: 1, Len: 16384}
	checked(t, "65536 bytes in one array", of(0, all), api.OK)
	checked(t, "and one more", of(0, all, one), api.ErrLimit)
	checked(t, "65536 bytes in two arrays", of(0, words, one), api.OK)
	checked(t, "and one more", of(0, words, one, one), api.ErrLimit)
	checked(t, "made up to more than 65536", of(0, words, five), api.ErrLimit)
	checked(t, "65536 in four arrays", of(0, bytes, bytes, bytes, bytes), api.OK)
	checked(t, "and four more of the output", of(4, bytes, bytes, bytes, bytes), api.ErrLimit)
	checked(t, "65536 with the output", of(4, words), api.OK)
	checked(t, "65540 with the output", of(8, words), api.ErrLimit)
	checked(t, "an output below 0 is none", of(-4, words, one), api.ErrArg)
	checked(t, "an output below 0 is none", of(-65536, words, one, one), api.ErrLimit)
	checked(t, "an output of 1", of(1, all), api.ErrLimit)
	checked(t, "an output of 1", of(1, words), api.ErrArg)
	checked(t, "the greatest output", of(greatest, all, all), api.ErrLimit)
	checked(t, "an array that may not be", of(0, all, api.Array{Elem: 2, Len: 1}), api.ErrArg)
	checked(t, "an array that may not be", of(0, all, api.Array{Elem: 4, Len: 0}), api.ErrArg)
	checked(t, "an array that may not be", of(0, all, api.Array{Elem: 4, Len: 16385}), api.ErrArg)
	checked(t, "an array that may not be", of(0, all, api.Array{Elem: 1, Len: 65537}), api.ErrArg)
	checked(t, "an array of another kind", of(0, all, api.Array{Elem: 4, Len: 1, Kind: 3}), api.ErrArg)
	checked(t, "an array of the input", of(0, all, api.Array{Elem: 4, Len: 1, Kind: api.AIn}), api.ErrArg)
	checked(t, "an array behind the output", of(0, all, api.Array{Elem: 4, Len: 1, Kind: api.AOut}), api.ErrArg)
	p := of(65536, api.Array{Elem: 4, Len: 16384, Kind: api.AIn}, api.Array{Elem: 4, Len: 16384, Kind: api.AOut}, api.Array{Elem: 1, Len: 16384, Kind: api.AIn, Off: 4})
	p.In = 65536
	checked(t, "arrays of the input and of the output are not counted", p, api.OK)
	p.Arrays = append(p.Arrays, one)
	checked(t, "and one of the rail", p, api.ErrLimit)
}

// P17.1: Temps, arrays, blocks and operations at their bound and one more, and ErrLimit ahead of ErrArg.
func TestCheckLimits(t *testing.T) {
	bad := block(api.Term{})
	arrays := make([]api.Array, Most+1)
	for k := range arrays {
		arrays[k] = api.Array{Elem: 4, Len: 1, Kind: api.AIn}
	}
	p := api.IR{In: 4, Arrays: arrays[:Most], Blocks: []api.Block{block(halt)}}
	checked(t, "arrays", p, api.OK)
	p.Blocks[0] = bad
	checked(t, "arrays and a bad end", p, api.ErrArg)
	p.Arrays = arrays
	checked(t, "arrays and one more", p, api.ErrLimit)

	blocks := make([]api.Block, Most+1)
	for k := range blocks {
		blocks[k] = block(halt)
	}
	checked(t, "blocks", api.IR{Blocks: blocks[:Most]}, api.OK)
	checked(t, "blocks and one more", api.IR{Blocks: blocks}, api.ErrLimit)
	blocks[Most-1] = bad
	checked(t, "blocks with a bad one", api.IR{Blocks: blocks[:Most]}, api.ErrArg)
	checked(t, "blocks with a bad one and one more", api.IR{Temps: -1, Blocks: blocks}, api.ErrLimit)

	ops := make([]api.Op, Most+1)
	for k := range ops {
		ops[k] = con(0, k)
	}
	of := func(l ...[]api.Op) api.IR {
		p := api.IR{Temps: 1}
		for _, ops := range l {
			p.Blocks = append(p.Blocks, block(halt, ops...))
		}
		return p
	}
	checked(t, "operations", of(ops[:Most]), api.OK)
	checked(t, "operations and one more", of(ops), api.ErrLimit)
	checked(t, "operations of two blocks", of(ops[:Most/2], ops[:Most/2]), api.OK)
	checked(t, "operations of two blocks and one more", of(ops[:Most/2], ops[:Most/2+1]), api.ErrLimit)
	checked(t, "operations of three blocks and one more", of(ops[:1], ops[:Most/2], ops[:Most/2]), api.ErrLimit)
	ops[Most-1].A = 1
	checked(t, "operations with a bad one", of(ops[:Most]), api.ErrArg)
	checked(t, "operations with a bad one and one more", of(ops), api.ErrLimit)
	checked(t, "temps and all amiss", api.IR{Temps: Most + 1, In: -1, Out: -1, Arrays: []api.Array{{}}, Blocks: []api.Block{bad}}, api.ErrLimit)
}

// P17.2: what an operation reads, and whether it makes something.
func TestUsesMakes(t *testing.T) {
	hold := func(o api.Op, uses []int, makes bool) {
		t.Helper()
		if l := Uses(o); !slices.Equal(l, uses) {
			t.Errorf("%v uses %v; wanted %v", o, l, uses)
		}
		if m := Makes(o); m != makes {
			t.Errorf("%v makes: %v", o, m)
		}
	}
	hold(con(7, 9), nil, true)
	hold(api.Op{Kind: api.ICopy, Dst: 7, A: 8}, []int{8}, true)
	hold(api.Op{Kind: api.INot, Dst: 7, A: 8}, []int{8}, true)
	for _, kind := range binary {
		hold(api.Op{Kind: kind, Dst: 7, A: 8, B: 9}, []int{8, 9}, true)
		hold(api.Op{Kind: kind, Dst: 7, A: 8, B: 7}, []int{8, 7}, true)
		hold(api.Op{Kind: kind, Dst: 7, A: 8, B: 8}, []int{8, 8}, true)
		hold(api.Op{Kind: kind}, []int{0, 0}, true)
	}
	for _, kind := range shifts {
		hold(api.Op{Kind: kind, Dst: 7, A: 8, Imm: 9}, []int{8}, true)
	}
	hold(api.Op{Kind: api.ISelect, Dst: 7, A: 9, B: 8, C: 6}, []int{9, 8, 6}, true)
	hold(api.Op{Kind: api.ISelect, Dst: 7, A: 6, B: 8, C: 6}, []int{6, 8, 6}, true)
	hold(api.Op{Kind: api.ISelect}, []int{0, 0, 0}, true)
	hold(load(7, 2, 9), []int{9}, true)
	hold(store(2, 9, 8), []int{9, 8}, false)
	hold(store(2, 9, 9), []int{9, 9}, false)
	hold(api.Op{}, nil, false)
	for _, kind := range []int{least, -1, 0, 20, 21, greatest} {
		hold(api.Op{Kind: kind, Dst: 1, A: 2, B: 3, C: 4, Imm: 5}, nil, false)
		hold(api.Op{Kind: kind}, nil, false)
	}
	for kind := 1; kind <= 19; kind++ {
		for _, name := range namesOfFields {
			o := api.Op{Kind: kind}
			*fieldOf(&o, name) = 3
			hold(o, spelledUses(o), kind != api.IStore && has(kind, name))
			if !has(kind, name) {
				hold(o, nil, false)
			}
		}
	}
	for _, n := range []int{least, -1, Most, greatest} {
		hold(api.Op{Kind: api.IAdd, Dst: n, A: n, B: n}, []int{n, n}, true)
		hold(con(n, n), nil, true)
	}
	l := Uses(store(0, 1, 2))
	if l = append(l, 4); !slices.Equal(Uses(store(0, 1, 2)), []int{1, 2}) {
		t.Error("an answer that is not new")
	}
}

var someWords = []int{0, 1, 2, 3, 31, 32, 0x7fffffff, 0x80000000, 0x80000001, 0xdeadbeef, 0xfffffffe, 0xffffffff}

// valued fails, if Value does not tell that.
func valued(t *testing.T, o api.Op, a, b, c, want int, ok bool) {
	t.Helper()
	if v, is := Value(o, a, b, c); v != want || is != ok {
		t.Errorf("%v of %d, %d, %d: %d, %v; wanted %d, %v", o, a, b, c, v, is, want, ok)
	}
	if v, is := spelledValue(o, a, b, c); v != want || is != ok {
		t.Errorf("%v of %d, %d, %d: spelled as %d, %v; wanted %d, %v", o, a, b, c, v, is, want, ok)
	}
}

// P17.2: what an operation makes of words.
func TestValueWrittenOut(t *testing.T) {
	const ones, top = 0xffffffff, 0x80000000
	for _, x := range []struct{ kind, a, b, want int }{
		{api.IAdd, 1, 2, 3}, {api.IAdd, ones, 1, 0}, {api.IAdd, ones, ones, 0xfffffffe},
		{api.ISub, 3, 2, 1}, {api.ISub, 0, 1, ones}, {api.ISub, 2, 3, ones}, {api.ISub, ones, ones, 0},
		{api.IMul, 3, 5, 15}, {api.IMul, ones, ones, 1}, {api.IMul, top, 2, 0},
		{api.IHigh, 3, 5, 0}, {api.IHigh, ones, ones, 0xfffffffe}, {api.IHigh, top, 2, 1},
		{api.IAnd, 12, 10, 8}, {api.IOr, 12, 10, 14}, {api.IXor, 12, 10, 6}, {api.IXor, ones, 1, 0xfffffffe},
		{api.ILess, 1, 2, ones}, {api.ILess, 2, 1, 0}, {api.ILess, 2, 2, 0}, {api.ILess, 1, ones, ones}, {api.ILess, top, 1, 0},
		{api.ISame, 2, 2, ones}, {api.ISame, 2, 3, 0}, {api.ISame, ones, ones, ones},
		{api.ICarry, 1, 2, 0}, {api.ICarry, ones, 0, 0}, {api.ICarry, ones, 1, 1}, {api.ICarry, top, top, 1},
	} {
		valued(t, api.Op{Kind: x.kind, Dst: 1, A: 2, B: 3}, x.a, x.b, 77, x.want, true)
	}
	valued(t, con(3, ones), 1, 2, 3, ones, true)
	valued(t, con(3, 0), 1, 2, 3, 0, true)
	valued(t, api.Op{Kind: api.ICopy, A: 1}, 5, 6, 7, 5, true)
	valued(t, api.Op{Kind: api.ICopy}, ones, 6, 7, ones, true)
	valued(t, api.Op{Kind: api.INot}, 5, 6, 7, 0xfffffffa, true)
	valued(t, api.Op{Kind: api.INot}, ones, 6, 7, 0, true)
	valued(t, api.Op{Kind: api.IShl, Imm: 31}, 3, 1, 1, top, true)
	valued(t, api.Op{Kind: api.IShl}, 3, 1, 1, 3, true)
	valued(t, api.Op{Kind: api.IShr, Imm: 31}, top, 1, 1, 1, true)
	valued(t, api.Op{Kind: api.IShr, Imm: 1}, 3, 1, 1, 1, true)
	valued(t, api.Op{Kind: api.IRor, Imm: 1}, 3, 1, 1, top+1, true)
	valued(t, api.Op{Kind: api.IRor, Imm: 31}, 1, 1, 1, 2, true)
	valued(t, api.Op{Kind: api.ISelect}, 5, 6, ones, 5, true)
	valued(t, api.Op{Kind: api.ISelect}, 5, 6, 0, 6, true)
	valued(t, api.Op{Kind: api.ISelect}, 12, 10, 6, 12, true)
	valued(t, load(1, 0, 2), 1, 2, 3, 0, false)
	valued(t, store(0, 1, 2), 1, 2, 3, 0, false)
}

func TestValueAtBounds(t *testing.T) {
	for kind := -1; kind <= 21; kind++ {
		for _, imm := range []int{0, 1, 5, 31} {
			for _, a := range someWords {
				for _, b := range someWords {
					for _, c := range []int{0, 0xffffffff, 0x0f0f0f0f} {
						o := api.Op{Kind: kind, Imm: imm}
						want, ok := spelledValue(o, a, b, c)
						valued(t, o, a, b, c, want, ok)
					}
				}
			}
		}
	}
	for kind := 1; kind <= 19; kind++ {
		for _, name := range namesOfFields {
			o := api.Op{Kind: kind}
			*fieldOf(&o, name) = 3
			want, ok := spelledValue(o, 9, 10, 12)
			if ok != (has(kind, name) && kind < api.ILoad) {
				t.Errorf("%v: spelled as %v", o, ok)
			}
			valued(t, o, 9, 10, 12, want, ok)
		}
	}
	for _, n := range []int{least, -1 << 32, -1, 1 << 32, greatest} {
		valued(t, con(0, n), 1, 2, 3, int(uint32(n)), true)
		valued(t, api.Op{Kind: api.ICopy}, n, 2, 3, int(uint32(n)), true)
		valued(t, api.Op{Kind: api.ISelect}, n, 2, -1, int(uint32(n)), true)
	}
}

// P17.3: the document's example.
func TestRunExample(t *testing.T) {
	p := api.IR{Temps: 2, Out: 4, Arrays: []api.Array{{Elem: 4, Len: 1, Kind: api.AOut}}, Blocks: []api.Block{block(halt, con(0, 7), store(0, 1, 0))}}
	steps(t, "example 1", p, "", 3, "\x07\x00\x00\x00", api.OK)
	p.Arrays[0].Elem = 1
	steps(t, "example 1 of a byte", p, "", 3, "\x07\x00\x00\x00", api.OK)
	steps(t, "nothing", api.IR{Blocks: []api.Block{block(halt)}}, "", 1, "", api.OK)
	steps(t, "no array", api.IR{In: 4, Out: 8, Blocks: []api.Block{block(halt)}}, "abcd", 1, strings.Repeat("\x00", 8), api.OK)
}

// P17.3: each kind of operation in a run is what Value tells.
func TestRunKinds(t *testing.T) {
	for kind := 1; kind <= 17; kind++ {
		for _, a := range someWords {
			for _, b := range someWords {
				o := api.Op{Kind: kind, Dst: 4, A: 1, B: 2, C: 3, Imm: 5}
				for _, name := range namesOfFields {
					if !has(kind, name) {
						*fieldOf(&o, name) = 0
					}
				}
				want, _ := spelledValue(o, a, b, 0xff00ff)
				p := api.IR{Temps: 5, Out: 4, Arrays: []api.Array{{Elem: 4, Len: 1, Kind: api.AOut}}, Blocks: []api.Block{
					block(halt, con(1, a), con(2, b), con(3, 0xff00ff), o, store(0, 0, 4))}}
				runs(t, o, p, "", 6, string([]byte{byte(want), byte(want >> 8), byte(want >> 16), byte(want >> 24)}), api.OK)
			}
		}
	}
}

// P17.3: an index that is just the array's length, one less, and the greatest one.
func TestRunIndices(t *testing.T) {
	for _, a := range []api.Array{
		{Elem: 1, Len: 3, Kind: api.AIn, Off: 4}, {Elem: 4, Len: 2, Kind: api.AIn}, {Elem: 4, Len: 1, Kind: api.AIn, Off: 4}, {Elem: 1, Len: 8, Kind: api.AIn},
		{Elem: 1, Len: 3, Kind: api.AOut, Off: 4}, {Elem: 4, Len: 2, Kind: api.AOut}, {Elem: 4, Len: 1, Kind: api.AOut, Off: 4}, {Elem: 1, Len: 8, Kind: api.AOut},
		{Elem: 1, Len: 3}, {Elem: 4, Len: 2}, {Elem: 1, Len: 16384}, {Elem: 4, Len: 16382},
	} {
		for _, i := range []int{0, a.Len - 1, a.Len, a.Len + 1, 2 * a.Len, 0x7fffffff, 0x80000000, 0xfffffffe, 0xffffffff} {
			want, err := strings.Repeat("\x00", 8), api.OK
			if i >= a.Len {
				want, err = "", api.ErrTrap
			}
			p := api.IR{Temps: 3, In: 8, Out: 8, Arrays: []api.Array{a}, Blocks: []api.Block{block(halt, con(1, i), load(2, 0, 1))}}
			n := 3
			if i >= a.Len {
				n = 2
			}
			steps(t, a, p, "abcdefgh", n, want, err)
			if a.Kind != api.AIn {
				p.Blocks[0].Ops[1] = store(0, 1, 2)
				steps(t, a, p, "abcdefgh", n, want, err)
			}
		}
	}
}

// P17.3: what is stored is loaded again, of bytes the lowest 8 bits, and nothing beside it changes.
func TestRunElements(t *testing.T) {
	p := api.IR{Temps: 9, In: 8, Out: 16, Arrays: []api.Array{
		{Elem: 4, Len: 2, Kind: api.AIn}, {Elem: 1, Len: 8, Kind: api.AIn}, {Elem: 1, Len: 3}, {Elem: 4, Len: 2},
		{Elem: 1, Len: 5, Kind: api.AOut}, {Elem: 4, Len: 1, Kind: api.AOut, Off: 12},
	}}
	run := func(want string, l ...api.Op) {
		t.Helper()
		p.Blocks = []api.Block{block(halt, append([]api.Op{con(1, 1), con(2, 2), con(3, 3), con(4, 4), con(5, 0x11223344)}, l...)...)}
		steps(t, l, p, "abcdefgh", len(l)+6, want, api.OK)
	}
	const none = "\x00\x00\x00\x00"
	run(none + none + none + none)
	run(none+none+none+"efgh", load(6, 0, 1), store(5, 0, 6))
	run(none+none+none+"abcd", load(6, 0, 0), store(5, 0, 6))
	run(none+none+none+"d\x00\x00\x00", load(6, 1, 3), store(5, 0, 6))
	run("e\x00a\x00"+"b\x00\x00\x00"+none+none, load(6, 0, 1), store(4, 0, 6), load(6, 1, 0), store(4, 2, 6), load(6, 1, 1), store(4, 4, 6))
	run("\x00\x44\x00\x00"+none+none+none, store(4, 1, 5))
	run(none+none+none+"\x44\x33\x22\x11", store(5, 0, 5))
	run(none+none+none+"\x44\x00\x00\x00", store(2, 2, 5), load(6, 2, 2), store(5, 0, 6))
	run(none+none+none+none, store(2, 2, 5), load(6, 2, 1), store(5, 0, 6))
	run(none+none+none+none, store(3, 0, 5), load(6, 3, 1), store(5, 0, 6))
	run(none+none+none+"\x44\x33\x22\x11", store(3, 1, 5), load(6, 3, 1), store(5, 0, 6))
	run(none+none+none+"\x44\x33\x22\x11", store(3, 1, 5), store(3, 1, 5), store(3, 0, 1), store(2, 0, 1), store(2, 2, 1), load(6, 3, 1), store(5, 0, 6))
	run("\x01\x02\x03\x04"+"\x44\x00\x00\x00"+none+"\x03\x00\x00\x00", store(4, 0, 1), store(4, 1, 2), store(4, 2, 3), store(4, 3, 4), store(4, 4, 5), store(5, 0, 3))
	run(none+none+none+"\x04\x00\x00\x00", store(4, 2, 4), load(6, 4, 2), con(7, 0), store(4, 2, 7), store(5, 0, 6))
	run(none+none+none+"\x00\x00\x00\x00", load(6, 4, 2), store(5, 0, 6))
	run(none+none+none+"\x05\x00\x00\x00", store(5, 0, 4), load(6, 5, 0), api.Op{Kind: api.IAdd, Dst: 6, A: 6, B: 1}, store(5, 0, 6))
	run(none+none+none+"\x02\x00\x00\x00", load(1, 3, 1), api.Op{Kind: api.ICopy, Dst: 1, A: 2}, store(5, 0, 1))
	run(none+none+none+"\x08\x00\x00\x00", api.Op{Kind: api.IAdd, Dst: 4, A: 4, B: 4}, store(5, 0, 4))
}

// P17.3: a branch's temp, and ways to no block.
func TestRunWays(t *testing.T) {
	p := api.IR{Temps: 2, Out: 4, Arrays: []api.Array{{Elem: 4, Len: 1, Kind: api.AOut}}}
	mark := func(n int) api.Block { return block(halt, con(1, n), con(0, 0), store(0, 0, 1)) }
	for _, x := range []struct {
		temp, yes, no int
		n             int
		want          string
		err           api.Errno
	}{
		{0, 1, 2, 6, "\x02\x00\x00\x00", api.OK},
		{0xffffffff, 1, 2, 6, "\x01\x00\x00\x00", api.OK},
		{1, 1, 2, 2, "", api.ErrTrap}, {2, 1, 2, 2, "", api.ErrTrap}, {0xfffffffe, 1, 2, 2, "", api.ErrTrap}, {0x80000000, 1, 2, 2, "", api.ErrTrap}, {0x7fffffff, 1, 1, 2, "", api.ErrTrap},
		{0, 1, -1, 2, "", api.ErrTrap}, {0xffffffff, -1, 2, 2, "", api.ErrTrap},
		{0, -1, 1, 6, "\x01\x00\x00\x00", api.OK}, {0xffffffff, 2, -1, 6, "\x02\x00\x00\x00", api.OK}, {0, -1, -1, 2, "", api.ErrTrap}, {1, -1, -1, 2, "", api.ErrTrap},
	} {
		p.Blocks = []api.Block{block(branch(0, x.yes, x.no), con(0, x.temp)), mark(1), mark(2)}
		steps(t, x, p, "", x.n, x.want, x.err)
	}
	p.Blocks = []api.Block{block(jump(2), con(0, 0)), mark(1), block(jump(1))}
	steps(t, "jumps back", p, "", 7, "\x01\x00\x00\x00", api.OK)
	p.Blocks[2].Term = jump(-1)
	steps(t, "jumps to no block", p, "", 3, "", api.ErrTrap)
	p.Blocks = []api.Block{block(jump(-1))}
	steps(t, "nothing but a way to no block", p, "", 1, "", api.ErrTrap)
	p.Blocks = []api.Block{block(branch(0, -1, 1)), mark(9)}
	steps(t, "temps are 0 at first", p, "", 5, "\x09\x00\x00\x00", api.OK)
	p.Blocks = []api.Block{block(halt), block(jump(-1))}
	steps(t, "the first block is the first", p, "", 1, "\x00\x00\x00\x00", api.OK)
	p.Blocks = []api.Block{block(halt, store(0, 0, 1)), mark(3)}
	steps(t, "the end of the first is one", p, "", 2, "\x00\x00\x00\x00", api.OK)
}

// P17.3: runs without an end.
func TestRunEndless(t *testing.T) {
	for _, p := range []api.IR{
		{Blocks: []api.Block{block(jump(0))}},
		{Temps: 1, Blocks: []api.Block{block(branch(0, -1, 0))}},
		{Temps: 1, Blocks: []api.Block{block(jump(1)), block(jump(0), con(0, 5), con(0, 6))}},
	} {
		for _, budget := range []int{0, 1, 2, 3, 4, 5, 1000, 1001, 1002} {
			runs(t, p, p, "", budget, "", api.ErrBudget)
		}
		if out, err := Run(p, "", Steps); out != "" || err != api.ErrBudget {
			t.Errorf("%v: %x, error %d", p, out, err)
		}
	}
}

// P17.3: a run of just so many steps as there may be, and of one more.
func TestRunMost(t *testing.T) {
	// 3 steps ahead, 4 a round (of which the last one is left behind two), and one at the end.
	p := api.IR{Temps: 4, Blocks: []api.Block{
		block(jump(1), con(1, (Steps-8)/4), con(2, 1)),
		block(branch(3, 2, 3), api.Op{Kind: api.ILess, Dst: 3, A: 0, B: 1}),
		block(jump(1), api.Op{Kind: api.IAdd, Dst: 0, A: 0, B: 2}),
		block(halt, con(0, 0), con(0, 0)),
	}}
	if out, err := Run(p, "", Steps); out != "" || err != api.OK {
		t.Errorf("error %d", err)
	}
	if out, err := Run(p, "", Steps-1); out != "" || err != api.ErrBudget {
		t.Errorf("with one step less: error %d", err)
	}
	p.Blocks[3].Ops = append(p.Blocks[3].Ops, con(0, 0))
	if out, err := Run(p, "", Steps); out != "" || err != api.ErrBudget {
		t.Errorf("with one step too many: error %d", err)
	}
}

// P17.3: what may not be handed in, and which error comes first.
func TestRunArguments(t *testing.T) {
	p := small()
	p.Blocks = []api.Block{block(halt)}
	none := strings.Repeat("\x00", 8)
	for _, input := range []string{"", "a", "abcdefg", "abcdefghi", "abcd", strings.Repeat("a", 70000)} {
		runs(t, "input", p, input, 100, "", api.ErrArg)
		runs(t, "input", p, input, 0, "", api.ErrArg)
	}
	for _, budget := range []int{least, -1 << 32, -1, Steps + 1, 1 << 32, greatest} {
		runs(t, budget, p, "abcdefgh", budget, "", api.ErrArg)
	}
	runs(t, "no budget", p, "abcdefgh", 0, "", api.ErrBudget)
	runs(t, "the least budget", p, "abcdefgh", 1, none, api.OK)
	runs(t, "the greatest budget", p, "abcdefgh", Steps, none, api.OK)
	p.Blocks[0].Term = jump(-1)
	runs(t, "a trap and no budget", p, "abcdefgh", 0, "", api.ErrBudget)
	runs(t, "a trap and a budget below 0", p, "abcdefgh", -1, "", api.ErrArg)
	runs(t, "a trap", p, "abcdefgh", 1, "", api.ErrTrap)
	p.Out = 65540
	runs(t, "too wide", p, "", -1, "", api.ErrLimit)
	p.Out = 6
	runs(t, "may not be", p, "abcdefgh", 10, "", api.ErrArg)
	runs(t, "may not be", api.IR{}, "", 10, "", api.ErrArg)
	runs(t, "may not be", api.IR{Temps: Most + 1}, "", 10, "", api.ErrLimit)
}

// P17.3: an array that stands more than once shares what is in the input, and a million of them take no more room than there is.
func TestRunManyArrays(t *testing.T) {
	arrays := make([]api.Array, Most)
	for k := range arrays {
		arrays[k] = api.Array{Elem: 4, Len: 16384, Kind: api.AIn}
	}
	arrays[Most-1] = api.Array{Elem: 4, Len: 1, Kind: api.AOut}
	p := api.IR{Temps: 2, In: 65536, Out: 4, Arrays: arrays, Blocks: []api.Block{block(halt, con(0, 16383), load(1, Most-2, 0), con(0, 0), store(Most-1, 0, 1))}}
	if out, err := Run(p, strings.Repeat("abcd", 16383)+"efgh", 5); out != "efgh" || err != api.OK {
		t.Errorf("%x, error %d", out, err)
	}
}

// roomy tells a program whose lists have room behind them, with other things in it.
func roomy(p api.IR) api.IR {
	p.Arrays = append(append(make([]api.Array, 0, len(p.Arrays)+3), p.Arrays...), api.Array{Elem: 9}, api.Array{Len: 9})[:len(p.Arrays)]
	blocks := append(append(make([]api.Block, 0, len(p.Blocks)+3), p.Blocks...), block(jump(9), con(9, 9)))[:len(p.Blocks)]
	for k := range blocks {
		ops := blocks[k].Ops
		blocks[k].Ops = append(append(make([]api.Op, 0, len(ops)+3), ops...), con(8, 8), con(7, 7))[:len(ops)]
	}
	p.Blocks = blocks
	return p
}

// whole tells a program with all that is in the room behind its lists.
func whole(p api.IR) any {
	p.Arrays = slices.Clone(p.Arrays[:cap(p.Arrays)])
	p.Blocks = slices.Clone(p.Blocks[:cap(p.Blocks)])
	for k, b := range p.Blocks {
		p.Blocks[k].Ops = slices.Clone(b.Ops[:cap(b.Ops)])
	}
	return p
}

// What is handed in is left as it was, behind its lists' ends too.
func TestLeftAsItWas(t *testing.T) {
	p := roomy(with(con(1, 1), load(2, 0, 1), store(1, 1, 2), store(2, 0, 2), con(4, 0xffffffff)))
	before := whole(p)
	if err := Check(p); err != api.OK {
		t.Fatal(err)
	}
	in := []byte("abcdefgh")
	out, err := Run(p, string(in), 100)
	if out != "\x00\x00\x00\x00\x00e\x00\x00" || err != api.OK {
		t.Errorf("%x, error %d", out, err)
	}
	if again, err := Run(p, string(in), 100); again != out || err != api.OK {
		t.Errorf("another time: %x, error %d", again, err)
	}
	if !reflect.DeepEqual(whole(p), before) {
		t.Error("changed")
	}
}
