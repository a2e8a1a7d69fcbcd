package asm

import (
	"math"
	"slices"
	"testing"

	"hauberk/api"
	"hauberk/decode"
	"hauberk/thumb"
)

func ins(i api.Ins) api.Item      { return api.Item{Kind: api.IIns, Ins: i} }
func label(n int) api.Item        { return api.Item{Kind: api.ILabel, Label: n} }
func jump(n int) api.Item         { return api.Item{Kind: api.IBranch, Label: n, Ins: api.Ins{Op: api.OB}} }
func when(c, n int) api.Item      { return branchOf(api.Ins{Op: api.OBcc, Cond: c}, n) }
func nop() api.Item               { return ins(api.Ins{Op: api.ONop}) }
func long() api.Item              { return ins(api.Ins{Op: api.OMovw, Rd: 3, Imm: 5}) }
func nops(n int) []api.Item       { return slices.Repeat([]api.Item{nop()}, n) }
func bkpt(n int) api.Item         { return ins(api.Ins{Op: api.OBkpt, Imm: n}) }
func of(x ...api.Item) []api.Item { return x }
func isBranch(op int) bool        { return op == api.OB || op == api.OBcc }
func last[T any](l []T) T         { return l[len(l)-1] }
func list[T any](l ...[]T) []T    { return slices.Concat(l...) }

func branchOf(i api.Ins, n int) api.Item {
	return api.Item{Kind: api.IBranch, Label: n, Ins: i}
}

// taken tells what is assembled, and fails if it is refused.
func taken(t *testing.T, l []api.Item, base int) (string, []api.Place) {
	t.Helper()
	s, ps, e := Assemble(l, base)
	if e != api.OK {
		t.Fatalf("refused: %d", e)
	}
	return s, ps
}

// refused fails if that error alone is not told.
func refused(t *testing.T, what string, l []api.Item, base int, want api.Errno) {
	t.Helper()
	s, ps, e := Assemble(l, base)
	if e != want || s != "" || len(ps) != 0 {
		t.Errorf("%s: %q %v %d, want error %d alone", what, s, ps, e, want)
	}
}

// spelled tells which branches are wide by the document's own words: all narrow at first, then all that do not reach wide at once, as long as there is one; and in how many rounds.
func spelled(l []api.Item) ([]bool, int) {
	wide := make([]bool, len(l))
	for rounds := 0; ; rounds++ {
		late := far(l, wide)
		if len(late) == 0 {
			return wide, rounds
		}
		for _, k := range late {
			wide[k] = true
		}
	}
}

// far tells the narrow branches that do not reach their labels, where the items stand with these wide.
func far(l []api.Item, wide []bool) []int {
	at, home := make([]int, len(l)+1), map[int]int{}
	for k, x := range l {
		n := 0
		switch {
		case x.Kind == api.IIns:
			n = thumb.Size(x.Ins)
		case x.Kind == api.ILabel:
			home[x.Label] = at[k]
		case wide[k]:
			n = 4
		default:
			n = 2
		}
		at[k+1] = at[k] + n
	}
	var late []int
	for k, x := range l {
		if x.Kind != api.IBranch || wide[k] {
			continue
		}
		imm := home[x.Label] - at[k] - 4
		if x.Ins.Op == api.OB && (imm < -2048 || imm > 2046) || x.Ins.Op == api.OBcc && (imm < -256 || imm > 254) {
			late = append(late, k)
		}
	}
	return late
}

// read decodes what is assembled, item by item, fails if an instruction is not its item's or a branch does not go to its label, and tells which items are wide branches.
func read(t *testing.T, l []api.Item, base int) []bool {
	t.Helper()
	s, ps := taken(t, l, base)
	home := map[int]int{}
	for _, p := range ps {
		home[p.Label] = p.Addr
	}
	wide, at, seen := make([]bool, len(l)), base, 0
	for k, x := range l {
		if x.Kind == api.ILabel {
			if seen >= len(ps) || ps[seen] != (api.Place{Label: x.Label, Addr: at}) {
				t.Fatalf("item %d: label %d stands at %d, but places are %v", k, x.Label, at, ps)
			}
			seen++
			continue
		}
		i, n, e := decode.Decode(s[at-base:])
		if e != api.OK {
			t.Fatalf("item %d: no instruction: %d", k, e)
		}
		want := x.Ins
		if x.Kind == api.IBranch {
			want = api.Ins{Op: x.Ins.Op, Cond: x.Ins.Cond, Imm: home[x.Label] - at - 4, Wide: i.Wide}
		}
		if i != want {
			t.Fatalf("item %d: %v, want %v", k, i, want)
		}
		wide[k] = x.Kind == api.IBranch && i.Wide
		at += n
	}
	if at-base != len(s) || seen != len(ps) {
		t.Fatalf("%d bytes and %d places, want %d and %d", len(s), len(ps), at-base, seen)
	}
	return wide
}

// dice tells numbers that look like thrown ones, the same at each run.
type dice uint64

func (d *dice) throw(n int) int {
	*d = *d*6364136223846793005 + 1442695040888963407
	return int(uint64(*d)>>33) % n
}

// P4.1

func TestLayOfNoItems(t *testing.T) {
	for _, base := range []int{0, 10, -3, 1 << 18, 1<<18 + 7} {
		for _, wide := range [][]bool{nil, {}, {true, true}} {
			for _, l := range [][]api.Item{nil, {}} {
				if at := Lay(l, base, wide); !slices.Equal(at, []int{base}) {
					t.Errorf("base %d: %v", base, at)
				}
			}
		}
	}
}

func TestLayOfEachKind(t *testing.T) {
	l := of(label(1), nop(), long(), jump(1), label(2), when(api.NE, 2), label(3), label(4), jump(9), label(5))
	for _, x := range []struct {
		wide []bool
		want []int
	}{
		{nil, []int{0, 0, 2, 6, 8, 8, 10, 10, 10, 12, 12}},
		{[]bool{false, false, false, true}, []int{0, 0, 2, 6, 10, 10, 12, 12, 12, 14, 14}},
		{[]bool{true, true, true, false, true, true}, []int{0, 0, 2, 6, 8, 8, 12, 12, 12, 14, 14}},
		{slices.Repeat([]bool{true}, 10), []int{0, 0, 2, 6, 10, 10, 14, 14, 14, 18, 18}},
		{slices.Repeat([]bool{true}, 40), []int{0, 0, 2, 6, 10, 10, 14, 14, 14, 18, 18}},
	} {
		for _, base := range []int{0, 100, -7, 1 << 18, 1 << 40} {
			at := Lay(l, base, x.wide)
			if len(at) != len(x.want) {
				t.Fatalf("%v: %v", x.wide, at)
			}
			for k, n := range x.want {
				if at[k] != base+n {
					t.Errorf("base %d, wide %v: item %d at %d, want %d", base, x.wide, k, at[k], base+n)
				}
			}
		}
	}
}

func TestLayOfInstructions(t *testing.T) {
	for _, x := range []struct {
		i    api.Ins
		want int
	}{
		{api.Ins{Op: api.ONop}, 2},
		{api.Ins{Op: api.OLdr, Rd: 7, Rn: 7}, 2},
		{api.Ins{Op: api.OAdd, Rd: 12, Rn: 1, Rm: 2}, 4},
		{api.Ins{Op: api.OB, Imm: 2046}, 2},
		{api.Ins{Op: api.OB, Imm: 2046, Wide: true}, 4},
		{api.Ins{Op: api.OBcc, Imm: -256, Cond: 13}, 2},
		{api.Ins{Op: api.OBcc, Imm: -256, Cond: 13, Wide: true}, 4},
		{api.Ins{}, 0},
		{api.Ins{Op: api.OAdd, Rd: 13}, 0},
		{api.Ins{Op: api.OB, Imm: 2048}, 0},
	} {
		for _, wide := range [][]bool{nil, {true}} {
			if at := Lay(of(ins(x.i), nop()), 6, wide); !slices.Equal(at, []int{6, 6 + x.want, 8 + x.want}) {
				t.Errorf("%v: %v", x.i, at)
			}
		}
	}
}

// Fields of a branch that do not matter, a missing label or one that is there twice are nothing to Lay; neither are items of no kind.
func TestLayOfWhatIsNotAssembled(t *testing.T) {
	l := of(label(1), label(1), branchOf(api.Ins{Op: api.OB, Rd: 77, Imm: 3, Wide: true}, 5), api.Item{Kind: 3, Ins: api.Ins{Op: api.ONop}}, api.Item{Kind: -1}, nop())
	if at := Lay(l, 2, nil); !slices.Equal(at, []int{2, 2, 2, 4, 4, 4, 6}) {
		t.Error(at)
	}
}

// P4.2

func TestBases(t *testing.T) {
	l := of(label(4), nop(), label(5))
	for _, base := range []int{0, 2, 100, 1<<18 - 2, 1 << 18} {
		s, ps := taken(t, l, base)
		if s != "\x00\xbf" || !slices.Equal(ps, []api.Place{{Label: 4, Addr: base}, {Label: 5, Addr: base + 2}}) {
			t.Errorf("base %d: %x %v", base, s, ps)
		}
	}
	for _, base := range []int{-1, -2, math.MinInt, 1, 3, 1<<18 - 1, 1<<18 + 1, 1<<18 + 2, math.MaxInt, math.MaxInt - 1} {
		refused(t, "base", l, base, api.ErrArg)
		refused(t, "base of nothing", nil, base, api.ErrArg)
	}
}

func TestNoItems(t *testing.T) {
	for _, l := range [][]api.Item{nil, {}} {
		if s, ps := taken(t, l, 8); s != "" || len(ps) != 0 {
			t.Errorf("%q %v", s, ps)
		}
	}
}

func TestBytes(t *testing.T) {
	for _, x := range []struct {
		l    []api.Item
		want string
	}{
		{of(label(0), jump(0)), "\xfe\xe7"},
		{of(ins(api.Ins{Op: api.OMovw, Rd: 1, Imm: 0x1234}), nop()), "\x41\xf2\x34\x21\x00\xbf"},
		{of(label(0), when(api.EQ, 0), when(13, 0)), "\xfe\xd0\xfd\xdd"},
		{of(label(-1), jump(-1)), "\xfe\xe7"},
		{of(jump(3), label(3)), "\xff\xe7"},
		{of(jump(3), nop(), label(3)), "\x00\xe0\x00\xbf"},
		{of(label(3), nop(), nop(), jump(3)), "\x00\xbf\x00\xbf\xfc\xe7"},
		{of(ins(api.Ins{Op: api.OB, Imm: 6}), ins(api.Ins{Op: api.OB, Imm: -4, Wide: true})), "\x03\xe0\xff\xf7\xfe\xbf"},
	} {
		for _, base := range []int{0, 600, 1 << 18} {
			if s, _ := taken(t, x.l, base); s != x.want {
				t.Errorf("base %d: %x, want %x", base, s, x.want)
			}
		}
	}
}

func TestPlaces(t *testing.T) {
	l := of(label(9), label(-1), long(), label(math.MaxInt), jump(math.MinInt), label(0), label(7), nop(), label(math.MinInt), label(1))
	want := []api.Place{{Label: 9, Addr: 20}, {Label: -1, Addr: 20}, {Label: math.MaxInt, Addr: 24}, {Label: 0, Addr: 26}, {Label: 7, Addr: 26}, {Label: math.MinInt, Addr: 28}, {Label: 1, Addr: 28}}
	if _, ps := taken(t, l, 20); !slices.Equal(ps, want) {
		t.Errorf("%v", ps)
	}
	if s, ps := taken(t, of(label(2), label(1)), 4); s != "" || !slices.Equal(ps, []api.Place{{Label: 2, Addr: 4}, {Label: 1, Addr: 4}}) {
		t.Errorf("labels alone: %q %v", s, ps)
	}
}

func TestItemsThatAreNone(t *testing.T) {
	none := []api.Item{{Kind: 3}, {Kind: -1}, {Kind: math.MaxInt}, {Kind: 3, Ins: api.Ins{Op: api.ONop}}, branchOf(api.Ins{Op: api.OB, Cond: 1}, 1), branchOf(api.Ins{Op: api.OB, Cond: -1}, 1)}
	for op := -2; op < 40; op++ {
		if !isBranch(op) {
			none = append(none, branchOf(api.Ins{Op: op}, 1))
		}
	}
	for _, c := range []int{-1, 14, 15, 16, math.MinInt, math.MaxInt} {
		none = append(none, when(c, 1))
	}
	for _, x := range none {
		for _, l := range [][]api.Item{{x}, {label(1), x}, {x, label(1)}, {label(1), nop(), x, nop()}} {
			refused(t, "none", l, 0, api.ErrArg)
		}
	}
	for c := range 14 {
		if s, _ := taken(t, of(label(1), when(c, 1)), 0); s != string([]byte{0xfe, 0xd0 + byte(c)}) {
			t.Errorf("condition %d: %x", c, s)
		}
	}
}

func TestInstructionsThatAreNone(t *testing.T) {
	for _, x := range []struct {
		i    api.Ins
		want api.Errno
	}{
		{api.Ins{}, api.ErrArg},
		{api.Ins{Op: 26}, api.ErrArg},
		{api.Ins{Op: api.OAdd, Rd: 13}, api.ErrArg},
		{api.Ins{Op: api.ONop, Imm: 1}, api.ErrArg},
		{api.Ins{Op: api.OB, Cond: 1}, api.ErrArg},
		{api.Ins{Op: api.OBcc, Cond: 14}, api.ErrArg},
		{api.Ins{Op: api.OB, Imm: 3}, api.ErrRange},
		{api.Ins{Op: api.OB, Imm: 2048}, api.ErrRange},
		{api.Ins{Op: api.OBcc, Imm: -258}, api.ErrRange},
	} {
		refused(t, "alone", of(ins(x.i)), 0, x.want)
		refused(t, "last", of(nop(), label(1), jump(1), ins(x.i)), 0, x.want)
	}
}

func TestLabels(t *testing.T) {
	refused(t, "together", of(label(1), label(1)), 0, api.ErrTwice)
	refused(t, "apart", of(label(0), nop(), label(1), jump(1), label(0)), 0, api.ErrTwice)
	refused(t, "below 0", of(label(-5), label(-5)), 0, api.ErrTwice)
	refused(t, "missing", of(jump(0)), 0, api.ErrName)
	refused(t, "missing, of a condition", of(label(0), when(api.EQ, -1), label(1)), 0, api.ErrName)
	refused(t, "an instruction's Label is none", of(api.Item{Kind: api.IIns, Label: 3, Ins: api.Ins{Op: api.ONop}}, jump(3)), 0, api.ErrName)
	refused(t, "a branch's Label is none", of(jump(3), jump(3)), 0, api.ErrName)
	taken(t, of(api.Item{Kind: api.IIns, Label: 3, Ins: api.Ins{Op: api.ONop}}, label(3), api.Item{Kind: api.IIns, Label: 3, Ins: api.Ins{Op: api.ONop}}, api.Item{Kind: api.IIns, Label: 8, Ins: api.Ins{Op: api.ONop}}), 0)
}

func TestMostBytes(t *testing.T) {
	full := slices.Repeat(of(long()), Most/4)
	for _, base := range []int{0, Most} {
		if s, _ := taken(t, full, base); len(s) != 1<<18 {
			t.Errorf("%d bytes", len(s))
		}
		if s, ps := taken(t, append(slices.Clip(full), label(1)), base); len(s) != 1<<18 || ps[0].Addr != base+1<<18 {
			t.Errorf("%d bytes, label %v", len(s), ps)
		}
		refused(t, "one more", append(slices.Clip(full), nop()), base, api.ErrBig)
	}
	narrow := list(of(label(1)), slices.Repeat(of(jump(1)), Most/4))
	read(t, narrow, 0)
	refused(t, "one more narrow", append(narrow, nop()), 0, api.ErrBig)
	next := slices.Repeat(of(jump(1)), 65537)
	refused(t, "narrow ones that are too many wide ones", append(next, label(1)), 0, api.ErrBig)
	little := list(nops(Most/2-2), of(label(1), jump(1)))
	if s, _ := taken(t, little, 0); len(s) != Most-2 || s[Most-4:] != "\xfe\xe7" {
		t.Errorf("%d bytes", len(s))
	}
	refused(t, "too many, were the narrow one wide", list(nops(1), little), 0, api.ErrBig)
}

// Each list of errors has one item of each, in the order in which the document names them, and in the opposite one.
func TestWhichErrorIsTold(t *testing.T) {
	much := slices.Repeat(of(long()), Most/4+1)
	faults := []struct {
		l    []api.Item
		want api.Errno
	}{
		{of(api.Item{Kind: 3}), api.ErrArg},
		{of(ins(api.Ins{Op: api.OB, Imm: 1})), api.ErrRange},
		{of(label(1), label(1)), api.ErrTwice},
		{of(jump(2)), api.ErrName},
		{much, api.ErrBig},
	}
	for k := range faults {
		var up, down []api.Item
		for _, f := range faults[k:] {
			up, down = list(up, f.l), list(f.l, down)
		}
		refused(t, "up", up, 0, faults[k].want)
		refused(t, "down", down, 0, faults[k].want)
		refused(t, "up, at an odd base", up, 1, api.ErrArg)
		for _, f := range faults[k+1:] {
			refused(t, "two", list(f.l, faults[k].l), 0, faults[k].want)
			refused(t, "two", list(faults[k].l, f.l), 0, faults[k].want)
		}
	}
}

func TestWhichItemIsTold(t *testing.T) {
	range1, arg := ins(api.Ins{Op: api.OB, Imm: 1}), ins(api.Ins{Op: 99})
	refused(t, "the first instruction's", of(nop(), range1, arg), 0, api.ErrRange)
	refused(t, "the first instruction's", of(arg, nop(), range1), 0, api.ErrArg)
	refused(t, "an item that is none is ahead", of(range1, branchOf(api.Ins{Op: api.ONop}, 1)), 0, api.ErrArg)
	refused(t, "a condition that is none is ahead", of(range1, when(14, 1)), 0, api.ErrArg)
	refused(t, "a label twice is ahead of one that is missing", of(jump(7), label(1), label(1)), 0, api.ErrTwice)
}

func TestNothingHandedInIsChanged(t *testing.T) {
	whole := list(of(branchOf(api.Ins{Op: api.OBcc, Cond: 2, Imm: 9}, 1)), nops(300), of(label(1), jump(2), label(2)), of(label(3)))
	l, before := whole[:len(whole)-1], slices.Clone(whole)
	wide := []bool{true, false, true}
	Lay(l, 4, wide[:1])
	s, ps := taken(t, l, 4)
	if !slices.Equal(whole, before) || !slices.Equal(wide, []bool{true, false, true}) {
		t.Error("changed")
	}
	ps[0].Addr = -1
	again, qs := taken(t, l, 4)
	if s != again || qs[0].Addr != 4+4+600 {
		t.Errorf("second answer: %v", qs)
	}
}

// P4.3

func TestFieldsThatDoNotMatter(t *testing.T) {
	strange := api.Ins{Rd: -1, Rn: 77, Rm: 1 << 40, Ra: -9, Imm: 12345, Wide: true}
	for _, op := range []int{api.OB, api.OBcc} {
		plain, odd := api.Ins{Op: op}, strange
		odd.Op = op
		if op == api.OBcc {
			plain.Cond, odd.Cond = 11, 11
		}
		for _, n := range []int{0, 127, 128, 1023, 1024} {
			build := func(i api.Ins) []api.Item {
				there := label(1)
				there.Ins = i
				return list(of(branchOf(i, 1)), nops(n), of(there), nops(n), of(branchOf(i, 1)))
			}
			s, ps := taken(t, build(plain), 0)
			r, qs := taken(t, build(odd), 0)
			if s != r || !slices.Equal(ps, qs) {
				t.Errorf("operation %d, %d between: unlike", op, n)
			}
		}
	}
}

func TestBranchesGoToTheirLabels(t *testing.T) {
	l := of(label(0))
	for k := range 40 {
		l = list(l, of(jump((k*7)%41), when(k%14, (k*11)%41), long()), nops(k*3), of(label(k+1), bkpt(k)))
	}
	for _, base := range []int{0, 2, 1 << 18} {
		read(t, l, base)
	}
}

func TestFarBranches(t *testing.T) {
	between := slices.Repeat(of(long()), Most/4-2)
	for _, x := range []api.Item{jump(1), when(api.CC, 1)} {
		if wide := read(t, list(of(x), between, of(label(1))), 0); !wide[0] {
			t.Error("forward: not wide")
		}
		if wide := read(t, list(of(label(1)), between, of(x)), Most); !last(wide) {
			t.Error("backward: not wide")
		}
	}
}

// P4.4

// Each way of a narrow branch is as long as it may be, and 2 bytes longer.
func TestEdgesOfNarrow(t *testing.T) {
	for _, x := range []struct {
		b    api.Item
		most int // how many nops lie at most between a narrow one and its label
		back bool
	}{
		{jump(1), 1024, false}, // 2 + 2048 - 4 = 2046
		{jump(1), 1022, true},  // 0 - 2044 - 4 = -2048
		{when(api.NE, 1), 128, false},
		{when(api.NE, 1), 126, true},
	} {
		for _, more := range []int{-1, 0, 1, 2} {
			l := list(of(x.b), nops(x.most+more), of(label(1)))
			if x.back {
				slices.Reverse(l)
			}
			l = list(of(label(0)), l, of(bkpt(1)))
			if wide := read(t, l, 64); slices.Contains(wide, true) != (more > 0) {
				t.Errorf("%v, %d too far: wide %v", x.b, more, more <= 0)
			}
		}
	}
}

// A branch's own two more bytes do not count for one that goes backward, but another's do, wherever on the way it is.
func TestWideOnesOnTheWay(t *testing.T) {
	for _, back := range []bool{false, true} {
		for place := range 3 {
			most := 127
			if back {
				most = 125
			}
			parts := [][]api.Item{of(when(0, 1)), nops(place * 50), of(jump(9)), nops(most - place*50), of(label(1))}
			l := slices.Concat(parts...)
			if back {
				slices.Reverse(l)
			}
			near := list(l, of(label(9)))
			if wide := read(t, near, 0); slices.Contains(wide, true) {
				t.Error("wide, though all reach")
			}
			away := list(l, nops(1200), of(label(9)))
			wide := read(t, away, 0)
			got, _ := spelled(away)
			if !slices.Equal(wide, got) || len(slices.DeleteFunc(slices.Clone(wide), func(b bool) bool { return !b })) != 2 {
				t.Errorf("back %v, place %d: the wide one on the way does not count", back, place)
			}
		}
	}
}

// As many narrow branches as may be lie between a branch and the one that becomes wide.
func TestWideOneFarOnTheWay(t *testing.T) {
	for _, back := range []bool{false, true} {
		most := 1023
		if back {
			most = 1021
		}
		l := of(jump(1))
		for k := range most {
			l = append(l, jump(10+k))
		}
		l = append(l, when(0, 0), label(1))
		if back {
			slices.Reverse(l)
		}
		for k := range most {
			if x := label(10 + k); back {
				l = slices.Insert(l, slices.Index(l, jump(10+k)), x)
			} else {
				l = slices.Insert(l, slices.Index(l, jump(10+k))+1, x)
			}
		}
		for _, n := range []int{5, 200} {
			m := list(l, nops(n), of(label(0)))
			if back {
				m = list(of(label(0)), nops(n), l)
			}
			wide := read(t, m, 0)
			if got := wide[slices.Index(m, jump(1))]; got != (n > 5) {
				t.Errorf("back %v, %d nops: wide %v", back, n, got)
			}
		}
	}
}

// chain is n branches each of which reaches just as long as the one ahead on its way is narrow, and one that does not reach: one round makes one wide.
func chain(n int, back bool) []api.Item {
	most := 57
	if back {
		most = 55
	}
	var l []api.Item
	for k := range n + 1 {
		l = list(l, of(when(1, k)), nops(most))
		if k > 0 {
			l = append(l, label(k-1))
		}
		l = list(l, nops(70-most))
	}
	l = list(l, nops(300), of(label(n)))
	if back {
		slices.Reverse(l)
	}
	return l
}

func TestRounds(t *testing.T) {
	for _, back := range []bool{false, true} {
		for _, n := range []int{0, 1, 2, 5, 30} {
			l := chain(n, back)
			want, rounds := spelled(l)
			if rounds != n+1 {
				t.Fatalf("%d, back %v: %d rounds", n, back, rounds)
			}
			if got := read(t, l, 0); !slices.Equal(got, want) {
				t.Errorf("%d, back %v: not what %d rounds tell", n, back, rounds)
			}
		}
	}
}

// ladder is n instructions and branches backward, each branch too far from its label by 2 just when all branches on its way are wide: one round makes one wide. It tells also how many bytes there are then.
func ladder(n int) ([]api.Item, int) {
	var l []api.Item
	end, at := 0, map[int]int{} // which label stands where, when all are wide
	for k := range n {
		l, at[end] = append(l, label(k)), k
		if to, ok := at[end-254]; ok {
			l, end = append(l, when(0, to)), end+4
		} else {
			l, end = append(l, nop()), end+2
		}
	}
	return l, end
}

func TestManyRounds(t *testing.T) {
	l, end := ladder(3000)
	want, rounds := spelled(l)
	if rounds < 2500 {
		t.Fatalf("%d rounds, want more", rounds)
	}
	if got := read(t, l, 0); !slices.Equal(got, want) {
		t.Errorf("not what %d rounds tell", rounds)
	}
	if s, _ := taken(t, l, 0); len(s) != end {
		t.Errorf("%d bytes, want %d with all of them wide", len(s), end)
	}
	l, end = ladder(60000)
	if s, _ := taken(t, l, 0); len(s) != end {
		t.Errorf("%d bytes, want %d with all of them wide", len(s), end)
	}
}

// Each way of making branches wide is tried: those in which all narrow ones reach have all of the answer's wide ones.
func TestLeastOfAllWays(t *testing.T) {
	d := dice(11)
	var some, all int
	for range 300 {
		l, places := scatter(&d, 7, 60)
		wide := read(t, l, 2*d.throw(1000))
		if len(far(l, wide)) != 0 {
			t.Fatal("a narrow one does not reach")
		}
		for set := range 1 << len(places) {
			try := make([]bool, len(l))
			for k, p := range places {
				try[p] = set>>k&1 == 1
			}
			if len(far(l, try)) != 0 {
				continue
			}
			all++
			for _, p := range places {
				if wide[p] && !try[p] {
					t.Fatalf("item %d is wide, and need not be", p)
				}
			}
		}
		if slices.Contains(wide, true) {
			some++
		}
	}
	if some < 50 || all < 2000 {
		t.Errorf("%d lists with wide ones, %d ways in which all reach: too few", some, all)
	}
}

// scatter tells items with so many branches, their labels, and nops between, and which items the branches are.
func scatter(d *dice, branches, gap int) ([]api.Item, []int) {
	var l []api.Item
	var places []int
	labels := 0
	for labels < branches || len(places) < branches {
		l = append(l, nops(d.throw(gap))...)
		if d.throw(2) == 0 && labels < branches {
			l = append(l, label(labels))
			labels++
			continue
		}
		if len(places) < branches {
			places = append(places, len(l))
			x := when(d.throw(14), d.throw(branches))
			if d.throw(6) == 0 {
				x = jump(x.Label)
			}
			l = append(l, x)
		}
	}
	return l, places
}

func TestScattered(t *testing.T) {
	d := dice(5)
	deepest := 0
	for _, x := range []struct{ runs, branches, gap int }{{60, 40, 12}, {40, 200, 3}, {30, 400, 2}, {6, 3000, 1}, {10, 300, 40}} {
		for range x.runs {
			l, _ := scatter(&d, x.branches, x.gap)
			if x.gap < 5 { // labels near their branches, so that there are close calls
				for k := range l {
					if l[k].Kind == api.IBranch {
						l[k].Label = closeCall(l, k, &d)
					}
				}
			}
			want, rounds := spelled(l)
			deepest = max(deepest, rounds)
			if got := read(t, l, 0); !slices.Equal(got, want) {
				t.Fatalf("%v: not what the document's rounds tell", x)
			}
		}
	}
	if deepest < 4 {
		t.Errorf("at most %d rounds: too few", deepest)
	}
}

// closeCall tells a label that stands about as far from item k as a narrow branch reaches.
func closeCall(l []api.Item, k int, d *dice) int {
	at := Lay(l, 0, nil)
	low, high := thumb.Reach(l[k].Ins.Op, false)
	want := at[k] + 4 + high - 2*d.throw(60)
	if d.throw(2) == 0 {
		want = at[k] + 4 + low + 2*d.throw(60)
	}
	best := l[k].Label
	for j, x := range l {
		if x.Kind == api.ILabel && at[j] <= want {
			best = x.Label
		}
	}
	return best
}
