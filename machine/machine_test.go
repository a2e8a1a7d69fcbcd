package machine

import (
	"math"
	"slices"
	"strings"
	"testing"

	"hauberk/api"
	"hauberk/cpu"
	"hauberk/decode"
	"hauberk/image"
	"hauberk/thumb"
)

// Where regions are, by the document's own numbers.
const (
	inBase     = 0x20010000
	outBase    = 0x20020000
	aBase      = 0x20040000
	bBase      = 0x20080000
	commitBase = 0x20100000
	statusBase = 0x20200000
)

// places is how many regions there are, most and long how many steps a run and a trace may have, ones the greatest word.
const (
	places = 7
	most   = 67108864
	long   = 1048576
	ones   = 1<<32 - 1
)

// small are sizes of which each is unlike the other ones, and smallInput is an input of them.
var small = api.Sizes{In: 8, Out: 16, Rail: 12}

const smallInput = "abc\xffefg\x80"

// far are numbers far from all that may be, and some whose lowest bits are those of some that may.
var far = []int{math.MinInt, math.MinInt + 1, math.MinInt + 4, -1 << 32, -1<<32 + 2, -1 << 31, 1 << 31, 1 << 32, 1<<32 + 1, 1<<32 + 2, math.MaxInt - 1, math.MaxInt}

// encoded tells the bytes of instructions.
func encoded(t *testing.T, l ...api.Ins) string {
	t.Helper()
	s := ""
	for _, i := range l {
		b, e := thumb.Encode(i)
		if e != api.OK {
			t.Fatalf("%+v is no instruction: %d", i, e)
		}
		s += b
	}
	return s
}

// built tells an image, and fails if it is refused.
func built(t *testing.T, h image.Head, code string) string {
	t.Helper()
	s, e := image.Build(h, code)
	if e != api.OK {
		t.Fatalf("Build(%+v, %d bytes): refused: %d", h, len(code), e)
	}
	return s
}

// made tells a machine, and fails if it is refused.
func made(t *testing.T, img, input string) *Machine {
	t.Helper()
	m, e := New(img, input)
	if e != api.OK || m == nil {
		t.Fatalf("New(%d bytes, %d bytes): refused: %d", len(img), len(input), e)
	}
	return m
}

// started tells the state that a machine starts with.
func started(reset int) api.State {
	s := api.State{PC: reset}
	s.R[13], s.R[14] = 0x20040000, 0xffffffff
	return s
}

// moves are OMovw and OMovt, which make a register a word.
func moves(r, n int) []api.Ins {
	return []api.Ins{{Op: api.OMovw, Rd: r, Imm: n % 65536}, {Op: api.OMovt, Rd: r, Imm: n / 65536}}
}

// regions tells the bytes of all regions.
func regions(t *testing.T, m *Machine) [places]string {
	t.Helper()
	var l [places]string
	for k := range l {
		s, e := m.Region(k)
		if e != api.OK {
			t.Fatalf("Region(%d): refused: %d", k, e)
		}
		l[k] = s
	}
	return l
}

// fresh tells the regions of a machine that starts.
func fresh(s api.Sizes, img, input string) [places]string {
	zero := func(n int) string { return strings.Repeat("\x00", n) }
	return [places]string{img, input, zero(s.Out), zero(s.Rail), zero(s.Rail), zero(4), zero(4)}
}

// stands fails if a machine is not as told.
func stands(t *testing.T, m *Machine, s api.State, done bool, l [places]string) {
	t.Helper()
	if m.State() != s {
		t.Errorf("state\n%+v, want\n%+v", m.State(), s)
	}
	if m.Done() != done {
		t.Errorf("done: %v", m.Done())
	}
	if have := regions(t, m); have != l {
		t.Errorf("regions %x, want %x", have[1:], l[1:])
	}
}

// spelled is a machine by the document's own words: of each region where it begins, and its bytes.
type spelled struct {
	handler int
	bases   [places]int
	bytes   [places][]byte
	s       api.State
	done    bool
}

// spell tells the machine that starts.
func spell(h image.Head, img, input string) *spelled {
	o := &spelled{handler: h.Handler, s: started(h.Reset)}
	o.bases = [places]int{0, inBase, outBase, aBase, bBase, commitBase, statusBase}
	for k, s := range fresh(h.Sizes, img, input) {
		o.bytes[k] = []byte(s)
	}
	return o
}

// told tells the regions' bytes.
func (o *spelled) told() [places]string {
	var l [places]string
	for k, b := range o.bytes {
		l[k] = string(b)
	}
	return l
}

// at tells the bytes that an access is of; none, if it may not be.
func (o *spelled) at(a api.Access) []byte {
	for k, b := range o.bytes {
		from := a.Addr - o.bases[k]
		if a.Addr%a.Size == 0 && from >= 0 && from+a.Size <= len(b) && !(k == 0 && a.Write) {
			return b[from : from+a.Size]
		}
	}
	return nil
}

// turn is (1) of a step.
func (o *spelled) turn(f api.Fault) {
	switch {
	case f.Kind == 2:
		o.s.R[f.Reg] ^= 1 << f.Bit
	case f.Kind == 3 && f.Bit == 0:
		o.s.N = !o.s.N
	case f.Kind == 3 && f.Bit == 1:
		o.s.Z = !o.s.Z
	case f.Kind == 3 && f.Bit == 2:
		o.s.C = !o.s.C
	case f.Kind == 3 && f.Bit == 3:
		o.s.V = !o.s.V
	}
}

// step is a step: its event, and whether there is one.
func (o *spelled) step(f api.Fault) (api.Event, bool) {
	if o.done {
		return api.Event{}, false
	}
	if !allowed(f) {
		f = api.Fault{}
	}
	o.turn(f)
	pc := o.s.PC
	if pc%2 == 1 || pc >= len(o.bytes[0]) {
		return o.trap(0), true
	}
	i, size, e := decode.Decode(string(o.bytes[0][pc:]))
	if e != api.OK {
		return o.trap(0), true
	}
	if f.Kind == 1 {
		o.s.PC += size
		return api.Event{Kind: 1, PC: pc, Cycles: 1}, true
	}
	a, asks := cpu.Access(o.s, i)
	loaded := 0
	if asks {
		b := o.at(a)
		if b == nil {
			return o.trap(a.Addr), true
		}
		for k := range b {
			if a.Write {
				b[k] = byte(a.Value >> (8 * k))
			} else {
				loaded += int(b[k]) << (8 * k)
			}
		}
	}
	v := api.Event{PC: pc, Addr: a.Addr, Cycles: cpu.Cycles(o.s, i)}
	if i.Op == api.OBkpt {
		o.done = true
		return v, true
	}
	o.s, _ = cpu.Step(o.s, i, loaded)
	return v, true
}

// trap is a step that traps.
func (o *spelled) trap(a int) api.Event {
	v := api.Event{Kind: 2, PC: o.s.PC, Addr: a, Cycles: 12}
	o.s.PC = o.handler
	return v
}

// run tells what a run leaves, and its events.
func (o *spelled) run(f api.Fault, budget int) (api.Result, []api.Event) {
	var r api.Result
	var l []api.Event
	for !o.done && r.Steps < budget {
		now := api.Fault{}
		if r.Steps == f.Step {
			now = f
		}
		v, _ := o.step(now)
		l = append(l, v)
		r.Steps++
		r.Cycles += v.Cycles
		if v.PC == o.handler {
			r.Handled++
		}
	}
	r.Halted = o.done
	for k := 3; k >= 0; k-- {
		r.Commit = r.Commit*256 + int(o.bytes[5][k])
		r.Status = r.Status*256 + int(o.bytes[6][k])
	}
	r.Out, r.A, r.B = string(o.bytes[2]), string(o.bytes[3]), string(o.bytes[4])
	return r, l
}

// allowed tells whether a fault may be at some step.
func allowed(f api.Fault) bool {
	switch f.Kind {
	case 0, 1:
		return true
	case 2:
		return f.Reg >= 0 && f.Reg <= 14 && f.Bit >= 0 && f.Bit <= 31
	case 3:
		return f.Bit >= 0 && f.Bit <= 3
	}
	return false
}

// faults tells all faults at a step: none, the skip, each bit of each register, each flag.
func faults(step int) []api.Fault {
	l := []api.Fault{{Step: step}, {Kind: api.FSkip, Step: step}}
	for r := range 15 {
		for b := range 32 {
			l = append(l, api.Fault{Kind: api.FFlip, Step: step, Reg: r, Bit: b})
		}
	}
	for b := range 4 {
		l = append(l, api.Fault{Kind: api.FFlag, Step: step, Bit: b})
	}
	return l
}

// edges tells faults of all kinds, and of none, with numbers at, below and above their ends, and far from them.
func edges() []api.Fault {
	numbers := slices.Concat([]int{-32, -16, -15, -2, -1, 0, 1, 2, 3, 4, 5, 12, 13, 14, 15, 16, 30, 31, 32, 33, 64}, far)
	var l []api.Fault
	for _, k := range slices.Concat([]int{-3, -2, -1, 0, 1, 2, 3, 4, 5, 6, 257, 258}, far) {
		for _, r := range numbers {
			for _, b := range numbers {
				l = append(l, api.Fault{Kind: k, Reg: r, Bit: b})
			}
		}
	}
	return l
}

// P9.1

func TestCheckSaid(t *testing.T) {
	for _, x := range []struct {
		f    api.Fault
		want api.Errno
	}{
		{api.Fault{}, api.OK}, {api.Fault{Step: 1 << 26}, api.OK}, {api.Fault{Step: math.MaxInt}, api.OK}, {api.Fault{Step: -1}, api.ErrArg}, {api.Fault{Step: math.MinInt}, api.ErrArg},
		{api.Fault{Kind: api.FSkip}, api.OK}, {api.Fault{Kind: api.FSkip, Reg: 99, Bit: -99}, api.OK}, {api.Fault{Kind: api.FSkip, Step: -1}, api.ErrArg},
		{api.Fault{Kind: api.FFlip, Reg: 14, Bit: 31}, api.OK}, {api.Fault{Kind: api.FFlip, Reg: 15, Bit: 31}, api.ErrArg}, {api.Fault{Kind: api.FFlip, Reg: 14, Bit: 32}, api.ErrArg},
		{api.Fault{Kind: api.FFlip, Reg: -1}, api.ErrArg}, {api.Fault{Kind: api.FFlip, Bit: -1}, api.ErrArg}, {api.Fault{Kind: api.FFlip, Step: -1}, api.ErrArg}, {api.Fault{Kind: api.FFlip}, api.OK},
		{api.Fault{Kind: api.FFlag, Bit: 3, Reg: 99}, api.OK}, {api.Fault{Kind: api.FFlag, Bit: 4}, api.ErrArg}, {api.Fault{Kind: api.FFlag, Bit: -1}, api.ErrArg}, {api.Fault{Kind: api.FFlag, Step: -1}, api.ErrArg},
		{api.Fault{Kind: 4}, api.ErrArg}, {api.Fault{Kind: -1}, api.ErrArg}, {api.Fault{Kind: 1 << 32}, api.ErrArg}, {api.Fault{Reg: 99, Bit: 99}, api.OK},
	} {
		if e := Check(x.f); e != x.want {
			t.Errorf("Check(%+v) = %d, want %d", x.f, e, x.want)
		}
	}
}

func TestCheckEdges(t *testing.T) {
	for _, f := range edges() {
		for _, step := range []int{0, 1, 1 << 20, 1 << 26, 1<<26 + 1, 1 << 32, math.MaxInt, -1, -2, -1 << 31, -1 << 32, math.MinInt} {
			f.Step = step
			want := api.ErrArg
			if step >= 0 && allowed(f) {
				want = api.OK
			}
			if e := Check(f); e != want {
				t.Errorf("Check(%+v) = %d, want %d", f, e, want)
			}
		}
	}
}

// stop is an image of OBkpt alone, of small sizes.
func stop(t *testing.T) string {
	return built(t, image.Head{Reset: 64, Handler: 64, Sizes: small}, encoded(t, api.Ins{Op: api.OBkpt}))
}

func TestNewOfNoImage(t *testing.T) {
	good := stop(t)
	other := func(k int, b byte) string { return good[:k] + string([]byte{b}) + good[k+1:] }
	for s, want := range map[string]api.Errno{
		"": api.ErrShort, "a": api.ErrShort, good[:4]: api.ErrShort, good[:63]: api.ErrShort,
		good[:64]: api.ErrForm, strings.Repeat("\x00", 64): api.ErrForm, strings.Repeat("\xff", 200): api.ErrForm,
		other(0, 1): api.ErrForm, other(4, 64): api.ErrForm, other(8, 200): api.ErrForm, other(28, 3): api.ErrForm, other(32, 1): api.ErrForm, other(36, 0): api.ErrForm, other(40, 3): api.ErrForm, other(60, 0): api.ErrForm,
		good + strings.Repeat("\x00", 262145-len(good)): api.ErrForm, "\x00" + good: api.ErrForm,
	} {
		if _, e := image.Parse(s); e != want {
			t.Fatalf("image tells %d of %x, want %d", e, s[:min(len(s), 80)], want)
		}
		// Whatever the input is: that there is no image is told first.
		for _, input := range []string{"", "abc", smallInput, smallInput + "a"} {
			if m, e := New(s, input); m != nil || e != want {
				t.Errorf("New(%x, %q): %v, %d, want %d", s[:min(len(s), 80)], input, m != nil, e, want)
			}
			if r, e := Run(s, input, api.Fault{Kind: 9}, -1); r != (api.Result{}) || e != want {
				t.Errorf("Run(%x, %q): %+v, %d, want %d", s[:min(len(s), 80)], input, r, e, want)
			}
			if l, e := Trace(s, input, -1); len(l) != 0 || e != want {
				t.Errorf("Trace(%x, %q): %v, %d, want %d", s[:min(len(s), 80)], input, l, e, want)
			}
		}
	}
}

func TestNewOfInputs(t *testing.T) {
	for _, n := range []int{0, 4, 8, 65532, 65536} {
		s := built(t, image.Head{Reset: 64, Handler: 64, Sizes: api.Sizes{In: n, Rail: 4}}, encoded(t, api.Ins{Op: api.OBkpt}))
		for _, have := range []int{0, 1, 3, 4, 5, n - 4, n - 1, n, n + 1, n + 4, 2 * n, 65536, 65540} {
			want := api.ErrArg
			if have == n {
				want = api.OK
			}
			if have < 0 {
				continue
			}
			input := strings.Repeat("\xa5", have)
			if m, e := New(s, input); (m != nil) != (have == n) || e != want {
				t.Errorf("%d bytes of input, asked for %d: %v, %d, want %d", have, n, m != nil, e, want)
			}
			if r, e := Run(s, input, api.Fault{}, 0); (r == api.Result{}) == (have == n) || e != want {
				t.Errorf("%d bytes of input, asked for %d: Run tells %d, want %d", have, n, e, want)
			}
			if l, e := Trace(s, input, 1); len(l) > 0 != (have == n) || e != want {
				t.Errorf("%d bytes of input, asked for %d: Trace tells %v, %d, want %d", have, n, l, e, want)
			}
		}
	}
}

func TestNewStarts(t *testing.T) {
	code := encoded(t, api.Ins{Op: api.OMovw, Rd: 3, Imm: 77}, api.Ins{Op: api.ONop}, api.Ins{Op: api.OBkpt})
	for _, s := range []api.Sizes{small, {Rail: 4}, {In: 4, Out: 4, Rail: 4}, {In: 65536, Out: 65536, Rail: 65536}} {
		input := strings.Repeat("q\x00\xff.", s.In/4)
		for _, more := range []string{"", "\x01", "\xff\xff\xff", strings.Repeat("\xe5", 262144-64-len(code))} {
			for mode := range 3 {
				for _, h := range []image.Head{{Reset: 64, Handler: 64}, {Reset: 64, Handler: 70}, {Reset: 68, Handler: 66}, {Reset: 70, Handler: 64}} {
					h.Sizes, h.Mode = s, mode
					img := built(t, h, code+more)
					stands(t, made(t, img, input), started(h.Reset), false, fresh(s, img, input))
				}
			}
		}
	}
}

// Two machines of one image have nothing in common.
func TestMachinesApart(t *testing.T) {
	p := writes(t)
	first, second := made(t, p, smallInput), made(t, p, smallInput)
	for {
		if _, ok := first.Step(api.Fault{Kind: api.FFlip, Reg: 13, Bit: 3}); !ok {
			break
		}
	}
	stands(t, second, started(64), false, fresh(small, p, smallInput))
	stands(t, made(t, p, smallInput), started(64), false, fresh(small, p, smallInput))
	if regions(t, first) == fresh(small, p, smallInput) || !first.Done() {
		t.Error("nothing was written")
	}
}

// P9.2

// from is a state with a word of each region in the registers from 0 on, whose PC is there where code begins.
func from() api.State {
	s := started(64)
	s.R[0], s.R[1], s.R[2], s.R[3], s.R[4], s.R[5], s.R[6] = 0x9abcdef1, inBase, outBase+8, 0x12345678, aBase+4, bBase+8, commitBase
	return s
}

// alone is an image of an instruction, with OBkpt behind it, and with a few that do nothing ahead of the handler's OBkpt, which is at 80.
func alone(t *testing.T, i api.Ins) (string, image.Head) {
	t.Helper()
	c := encoded(t, i, api.Ins{Op: api.OBkpt, Imm: 1})
	for len(c) < 16 {
		c += "\x00\xbf"
	}
	h := image.Head{Reset: 64, Handler: 80, Sizes: small}
	return built(t, h, c+encoded(t, api.Ins{Op: api.OBkpt, Imm: 2})), h
}

// put tells a machine, and the same by the document's words, that is in a state.
func put(t *testing.T, img string, h image.Head, input string, s api.State) (*Machine, *spelled) {
	t.Helper()
	m, o := made(t, img, input), spell(h, img, input)
	m.state, o.s = s, s
	return m, o
}

// stepped fails if a step is not what the document says.
func stepped(t *testing.T, m *Machine, o *spelled, f api.Fault) {
	t.Helper()
	before := o.s
	want, yes := o.step(f)
	if v, ok := m.Step(f); v != want || ok != yes {
		t.Errorf("step of %+v\nwith %+v:\n%+v, %v, want\n%+v, %v", before, f, v, ok, want, yes)
	}
	stands(t, m, o.s, o.done, o.told())
}

// Steps whose events, registers and bytes were reckoned by hand, from the state above.
func TestStepSaid(t *testing.T) {
	none, skip := api.Fault{}, api.Fault{Kind: api.FSkip}
	flip := func(r, b int) api.Fault { return api.Fault{Kind: api.FFlip, Reg: r, Bit: b} }
	flag := func(b int) api.Fault { return api.Fault{Kind: api.FFlag, Bit: b} }
	load, loadByte := api.Ins{Op: api.OLdr, Rd: 0, Rn: 1}, api.Ins{Op: api.OLdrb, Rd: 0, Rn: 1}
	store, storeByte := api.Ins{Op: api.OStr, Rd: 3, Rn: 2}, api.Ins{Op: api.OStrb, Rd: 3, Rn: 2}
	move, add := api.Ins{Op: api.OMovw, Rd: 0, Imm: 5}, api.Ins{Op: api.OAdd, Rd: 0, Rn: 3, Rm: 3}
	branch, wide := api.Ins{Op: api.OB, Imm: 4}, api.Ins{Op: api.OB, Imm: 4, Wide: true}
	equal, unlike := api.Ins{Op: api.OBcc, Cond: 0, Imm: 4}, api.Ins{Op: api.OBcc, Cond: 1, Imm: 4, Wide: true}
	const first = 0x9abcdef1
	for k, x := range []struct {
		i    api.Ins
		f    api.Fault
		want api.Event
		r0   int
		pc   int
		out  string
	}{
		{move, none, api.Event{Kind: api.VDone, PC: 64, Cycles: 1}, 5, 68, ""},
		{move, skip, api.Event{Kind: api.VSkip, PC: 64, Cycles: 1}, first, 68, ""},
		{move, flip(0, 0), api.Event{PC: 64, Cycles: 1}, 5, 68, ""},
		{add, none, api.Event{PC: 64, Cycles: 1}, 0x2468acf0, 68, ""},
		{add, flip(3, 0), api.Event{PC: 64, Cycles: 1}, 0x2468acf2, 68, ""},
		{add, flip(4, 0), api.Event{PC: 64, Cycles: 1}, 0x2468acf0, 68, ""},
		{api.Ins{Op: api.OUmull, Rd: 0, Ra: 8, Rn: 3, Rm: 3}, none, api.Event{PC: 64, Cycles: 4}, 0x1df4d840, 68, ""},
		{api.Ins{Op: api.OUmull, Rd: 0, Ra: 8, Rn: 3, Rm: 3}, skip, api.Event{Kind: 1, PC: 64, Cycles: 1}, first, 68, ""},
		{api.Ins{Op: api.ONop}, none, api.Event{PC: 64, Cycles: 1}, first, 66, ""},
		{api.Ins{Op: api.ONop}, skip, api.Event{Kind: 1, PC: 64, Cycles: 1}, first, 66, ""},
		{api.Ins{Op: api.ONop}, flip(0, 31), api.Event{PC: 64, Cycles: 1}, 0x1abcdef1, 66, ""},
		{load, none, api.Event{PC: 64, Addr: inBase, Cycles: 2}, 0xff636261, 66, ""},
		{load, skip, api.Event{Kind: 1, PC: 64, Cycles: 1}, first, 66, ""},
		{load, flip(1, 2), api.Event{PC: 64, Addr: inBase + 4, Cycles: 2}, 0x80676665, 66, ""},
		{load, flip(1, 0), api.Event{Kind: api.VTrap, PC: 64, Addr: inBase + 1, Cycles: 12}, first, 80, ""},
		{load, flip(1, 3), api.Event{Kind: 2, PC: 64, Addr: inBase + 8, Cycles: 12}, first, 80, ""},
		{load, flip(0, 7), api.Event{PC: 64, Addr: inBase, Cycles: 2}, 0xff636261, 66, ""},
		{loadByte, none, api.Event{PC: 64, Addr: inBase, Cycles: 2}, 0x61, 66, ""},
		{loadByte, flip(1, 0), api.Event{PC: 64, Addr: inBase + 1, Cycles: 2}, 0x62, 66, ""},
		{loadByte, flip(1, 29), api.Event{Kind: 2, PC: 64, Addr: 0x10000, Cycles: 12}, first, 80, ""},
		{store, none, api.Event{PC: 64, Addr: outBase + 8, Cycles: 2}, first, 66, "\x00\x00\x00\x00\x00\x00\x00\x00\x78\x56\x34\x12\x00\x00\x00\x00"},
		{store, skip, api.Event{Kind: 1, PC: 64, Cycles: 1}, first, 66, ""},
		{store, flip(3, 31), api.Event{PC: 64, Addr: outBase + 8, Cycles: 2}, first, 66, "\x00\x00\x00\x00\x00\x00\x00\x00\x78\x56\x34\x92\x00\x00\x00\x00"},
		{store, flip(2, 3), api.Event{PC: 64, Addr: outBase, Cycles: 2}, first, 66, "\x78\x56\x34\x12\x00\x00\x00\x00\x00\x00\x00\x00\x00\x00\x00\x00"},
		{store, flip(2, 4), api.Event{Kind: 2, PC: 64, Addr: outBase + 24, Cycles: 12}, first, 80, ""},
		{store, flip(2, 17), api.Event{Kind: 2, PC: 64, Addr: 0x20000008, Cycles: 12}, first, 80, ""},
		{storeByte, none, api.Event{PC: 64, Addr: outBase + 8, Cycles: 2}, first, 66, "\x00\x00\x00\x00\x00\x00\x00\x00\x78\x00\x00\x00\x00\x00\x00\x00"},
		{storeByte, flip(2, 1), api.Event{PC: 64, Addr: outBase + 10, Cycles: 2}, first, 66, "\x00\x00\x00\x00\x00\x00\x00\x00\x00\x00\x78\x00\x00\x00\x00\x00"},
		{branch, none, api.Event{PC: 64, Cycles: 3}, first, 72, ""},
		{branch, skip, api.Event{Kind: 1, PC: 64, Cycles: 1}, first, 66, ""},
		{wide, none, api.Event{PC: 64, Cycles: 3}, first, 72, ""},
		{wide, skip, api.Event{Kind: 1, PC: 64, Cycles: 1}, first, 68, ""},
		{equal, none, api.Event{PC: 64, Cycles: 1}, first, 66, ""},
		{equal, flag(1), api.Event{PC: 64, Cycles: 3}, first, 72, ""},
		{equal, flag(0), api.Event{PC: 64, Cycles: 1}, first, 66, ""},
		{equal, flag(2), api.Event{PC: 64, Cycles: 1}, first, 66, ""},
		{equal, flag(3), api.Event{PC: 64, Cycles: 1}, first, 66, ""},
		{equal, skip, api.Event{Kind: 1, PC: 64, Cycles: 1}, first, 66, ""},
		{unlike, none, api.Event{PC: 64, Cycles: 3}, first, 72, ""},
		{unlike, flag(1), api.Event{PC: 64, Cycles: 1}, first, 68, ""},
		{unlike, skip, api.Event{Kind: 1, PC: 64, Cycles: 1}, first, 68, ""},
		{api.Ins{Op: api.OBkpt}, skip, api.Event{Kind: 1, PC: 64, Cycles: 1}, first, 66, ""},
		{api.Ins{Op: api.OBkpt}, none, api.Event{PC: 64, Cycles: 1}, first, 64, ""},
		{api.Ins{Op: api.OBkpt}, flip(0, 4), api.Event{PC: 64, Cycles: 1}, 0x9abcdee1, 64, ""},
	} {
		img, h := alone(t, x.i)
		m, _ := put(t, img, h, smallInput, from())
		v, ok := m.Step(x.f)
		out, _ := m.Region(2)
		if x.out == "" {
			x.out = strings.Repeat("\x00", 16)
		}
		if v != x.want || !ok || m.State().R[0] != x.r0 || m.State().PC != x.pc || out != x.out {
			t.Errorf("%d: step of %+v with %+v: %+v, %v, register 0 %#x, PC %d, output %x", k, x.i, x.f, v, ok, m.State().R[0], m.State().PC, out)
		}
		if want := x.i.Op == api.OBkpt && x.f.Kind != api.FSkip; m.Done() != want {
			t.Errorf("%d: done: %v", k, m.Done())
		}
	}
}

// kinds tells instructions of each operation; those that load and store do so in each region, and where they may not.
func kinds() []api.Ins {
	l := []api.Ins{
		{Op: api.ONop}, {Op: api.OBkpt}, {Op: api.OBkpt, Imm: 255}, {Op: api.OMovw, Rd: 12, Imm: 0xabcd}, {Op: api.OMovt, Rd: 3, Imm: 0xabcd},
		{Op: api.OLsl, Rd: 7, Rm: 3, Imm: 5}, {Op: api.OLsr, Rd: 7, Rm: 3, Imm: 5}, {Op: api.OAsr, Rd: 7, Rm: 0, Imm: 5}, {Op: api.ORor, Rd: 7, Rm: 3, Imm: 5}, {Op: api.OMvn, Rd: 7, Rm: 3},
		{Op: api.OAnd, Rd: 7, Rn: 0, Rm: 3}, {Op: api.OBic, Rd: 7, Rn: 0, Rm: 3}, {Op: api.OOrr, Rd: 7, Rn: 0, Rm: 3}, {Op: api.OEor, Rd: 7, Rn: 0, Rm: 3}, {Op: api.OAdd, Rd: 7, Rn: 0, Rm: 3}, {Op: api.OSub, Rd: 7, Rn: 0, Rm: 3}, {Op: api.OMul, Rd: 7, Rn: 0, Rm: 3},
		{Op: api.OUmull, Rd: 7, Ra: 8, Rn: 0, Rm: 3}, {Op: api.OBfi, Rd: 0, Rn: 3, Imm: 8, Ra: 16}, {Op: api.OCmp, Rn: 0, Rm: 3}, {Op: api.OCmp, Rn: 3, Rm: 3},
		{Op: api.OB, Imm: 4}, {Op: api.OB, Imm: -4}, {Op: api.OB, Imm: 8, Wide: true}, {Op: api.OB, Imm: -66}, {Op: api.OB, Imm: -68, Wide: true}, {Op: api.OB, Imm: 2046}, {Op: api.OB, Imm: -16777216, Wide: true}, {Op: api.OB, Imm: 16777214, Wide: true},
	}
	for c := range 14 {
		l = append(l, api.Ins{Op: api.OBcc, Cond: c, Imm: 4}, api.Ins{Op: api.OBcc, Cond: c, Imm: -70, Wide: true})
	}
	for _, op := range []int{api.OLdr, api.OStr, api.OLdrb, api.OStrb} {
		for n := range 8 {
			l = append(l, api.Ins{Op: op, Rd: 3, Rn: n}, api.Ins{Op: op, Rd: n, Rn: n})
		}
	}
	return l
}

// Each kind of instruction with each fault, from several states.
func TestStepKinds(t *testing.T) {
	second := from()
	second.N, second.Z, second.C, second.V = true, true, false, true
	second.R[1], second.R[2], second.R[3], second.R[4], second.R[5], second.R[6] = inBase+7, outBase+15, 0x20040008, statusBase, 68, bBase+11
	third := from()
	third.N, third.C = true, true
	third.R[0], third.R[1], third.R[2], third.R[4], third.R[5], third.R[6] = 0, 1, ones, outBase+16, inBase-1, statusBase+3
	for _, i := range kinds() {
		img, h := alone(t, i)
		for _, s := range []api.State{from(), second, third} {
			for _, f := range faults(0) {
				m, o := put(t, img, h, smallInput, s)
				stepped(t, m, o, f)
				stepped(t, m, o, api.Fault{})
			}
		}
	}
}

// A flag, or a bit, is turned in whatever state it is, and stays turned.
func TestStepTurns(t *testing.T) {
	img := built(t, image.Head{Reset: 64, Handler: 64, Sizes: small}, strings.Repeat("\x00\xbf", 1200))
	m := made(t, img, smallInput)
	want := started(64)
	for _, f := range slices.Concat(faults(0), faults(0)) {
		if v, ok := m.Step(f); v.Kind == api.VTrap || !ok {
			t.Fatalf("%+v: %+v, %v", f, v, ok)
		}
		switch f.Kind {
		case api.FFlip:
			want.R[f.Reg] ^= 1 << f.Bit
		case api.FFlag:
			l := []*bool{&want.N, &want.Z, &want.C, &want.V}
			*l[f.Bit] = !*l[f.Bit]
		}
		want.PC += 2
		if m.State() != want {
			t.Fatalf("%+v: %+v, want %+v", f, m.State(), want)
		}
	}
	if want.PC -= 4 * (2 + 480 + 4); want != started(64) {
		t.Errorf("%+v", want)
	}
}

// The PC at which there is no instruction: odd, behind the end, at bytes that are none, or that end too early.
func TestStepTrapsOfPC(t *testing.T) {
	code := encoded(t, api.Ins{Op: api.ONop}, api.Ins{Op: api.OMovw, Rd: 1, Imm: 3}) + "\xe0\x00\x00\x00\xff\xff\xff\xff" + encoded(t, api.Ins{Op: api.OBkpt}, api.Ins{Op: api.ONop})
	for _, end := range []string{"", "\x00", "\x41\xf2", "\x41\xf2\x34", "\x41", "\x00\xbf"} {
		h := image.Head{Reset: 64, Handler: 66, Sizes: small}
		img := built(t, h, code+end)
		counters := []int{math.MaxInt32, 1 << 31, ones, ones - 1, ones - 3, inBase, outBase, aBase, 262144, 262142}
		for pc := range len(img) + 20 {
			counters = append(counters, pc)
		}
		traps := 0
		for _, pc := range counters {
			s := from()
			s.PC = pc
			for _, f := range []api.Fault{{}, {Kind: api.FSkip}, {Kind: api.FFlip, Reg: 0, Bit: 3}, {Kind: api.FFlip, Reg: 14, Bit: 31}, {Kind: api.FFlag, Bit: 1}, {Kind: api.FFlag, Bit: 2}, {Kind: 7}} {
				m, o := put(t, img, h, smallInput, s)
				stepped(t, m, o, f)
				if pc%2 == 0 && pc < len(img) {
					continue
				}
				traps++
				s.PC = 66
				want := s
				switch f.Kind {
				case api.FFlip:
					want.R[f.Reg] ^= 1 << f.Bit
				case api.FFlag:
					want.Z, want.C = f.Bit == 1, f.Bit == 2
				}
				stands(t, m, want, false, fresh(small, img, smallInput))
				s.PC = pc
			}
		}
		if traps < 7*(len(img)/2+20) {
			t.Errorf("%d traps", traps)
		}
	}
}

// The flash begins ahead of the code: words of the head that are instructions are done as all others are.
func TestStepAheadOfCode(t *testing.T) {
	h := image.Head{Reset: 64, Handler: 64, Sizes: api.Sizes{In: 0x6800, Out: 0xbe00, Rail: 4}}
	img := built(t, h, encoded(t, api.Ins{Op: api.OB, Imm: 28 - 64 - 4}))
	m := made(t, img, strings.Repeat("\x00", 0x6800))
	for k, want := range []api.Event{{PC: 64, Cycles: 3}, {PC: 28, Cycles: 2}, {Kind: api.VTrap, PC: 30, Cycles: 12}, {PC: 64, Cycles: 3}, {Kind: api.VSkip, PC: 28, Cycles: 1}} {
		f := api.Fault{}
		if k == 4 {
			f.Kind = api.FSkip
		}
		if v, ok := m.Step(f); v != want || !ok {
			t.Errorf("step %d: %+v, %v, want %+v", k, v, ok, want)
		}
	}
	if m.State().R[0] != 0x20040000 {
		t.Errorf("from address 0: %#x", m.State().R[0])
	}
	m.state.PC = 32
	if v, ok := m.Step(api.Fault{}); v != (api.Event{PC: 32, Cycles: 1}) || !ok || !m.Done() {
		t.Errorf("OBkpt at 32: %+v, %v", v, ok)
	}
}

// What traps by its bytes, and by its end, told by hand.
func TestStepTrapsSaid(t *testing.T) {
	code := encoded(t, api.Ins{Op: api.ONop}) + "\xe0\x00" + "\xff\xff\xff\xff" + "\x41\xf2"
	h := image.Head{Reset: 64, Handler: 64, Sizes: small}
	for _, more := range []string{"", "\x34"} {
		img := built(t, h, code+more)
		for _, pc := range []int{65, 66, 67, 68, 70, 72, 73, 74, 75, 76, 100, 101, 1 << 20, inBase, ones, ones - 1} {
			for _, f := range []api.Fault{{}, {Kind: api.FSkip}} {
				s := from()
				s.PC = pc
				m, _ := put(t, img, h, smallInput, s)
				if v, ok := m.Step(f); v != (api.Event{Kind: api.VTrap, PC: pc, Cycles: 12}) || !ok {
					t.Errorf("at %d of %d bytes with %+v: %+v, %v", pc, len(img), f, v, ok)
				}
				stands(t, m, from(), false, fresh(small, img, smallInput))
			}
		}
	}
}

// Loads and stores that may not be, and those that just may.
func TestStepTrapsOfAccess(t *testing.T) {
	var addresses []int
	img, h := alone(t, api.Ins{Op: api.ONop})
	for k, s := range fresh(small, img, smallInput) {
		base := [places]int{0, inBase, outBase, aBase, bBase, commitBase, statusBase}[k]
		for d := -5; d <= 5; d++ {
			addresses = append(addresses, base+d, base+len(s)+d)
		}
	}
	addresses = append(addresses, 1<<31, 0x10000, 262140, 262144, 0x20000000, 0x20030000, ones, ones-3)
	for _, op := range []int{api.OLdr, api.OStr, api.OLdrb, api.OStrb} {
		i := api.Ins{Op: op, Rd: 3, Rn: 7}
		img, h = alone(t, i)
		for _, a := range addresses {
			s := from()
			s.R[7] = a & ones
			for _, f := range []api.Fault{{}, {Kind: api.FSkip}, {Kind: api.FFlip, Reg: 7, Bit: 0}, {Kind: api.FFlip, Reg: 7, Bit: 2}, {Kind: api.FFlip, Reg: 7, Bit: 31}, {Kind: api.FFlip, Reg: 3, Bit: 9}, {Kind: api.FFlag}} {
				m, o := put(t, img, h, smallInput, s)
				stepped(t, m, o, f)
				stepped(t, m, o, api.Fault{Kind: api.FSkip})
			}
		}
	}
}

// A step of a machine that is done is none, with whatever fault.
func TestStepDone(t *testing.T) {
	img, h := alone(t, api.Ins{Op: api.OStr, Rd: 3, Rn: 2})
	m, o := put(t, img, h, smallInput, from())
	stepped(t, m, o, api.Fault{})
	stepped(t, m, o, api.Fault{Kind: api.FFlip, Reg: 9, Bit: 9})
	if !m.Done() {
		t.Fatal("not done")
	}
	s, l := m.State(), regions(t, m)
	for _, f := range slices.Concat(faults(0), faults(3), edges()[:200]) {
		if v, ok := m.Step(f); v != (api.Event{}) || ok {
			t.Errorf("%+v: %+v, %v", f, v, ok)
		}
		if m.State() != s || !m.Done() {
			t.Fatalf("%+v changes %+v", f, m.State())
		}
	}
	stands(t, m, s, true, l)
}

func TestNoMachine(t *testing.T) {
	var m *Machine
	for range 2 {
		if m.State() != (api.State{}) || !m.Done() {
			t.Errorf("none: %+v, %v", m.State(), m.Done())
		}
		for _, k := range append([]int{-1, 0, 1, 2, 3, 4, 5, 6, 7}, far...) {
			if s, e := m.Region(k); s != "" || e != api.ErrNil {
				t.Errorf("Region(%d) of none: %x, %d", k, s, e)
			}
		}
		for _, f := range slices.Concat(faults(0), edges()) {
			if v, ok := m.Step(f); v != (api.Event{}) || ok {
				t.Errorf("step of none with %+v: %+v, %v", f, v, ok)
			}
		}
	}
}

// A fault that may not be is none; one that may be is one, whatever its Step is.
func TestStepFaultsAtEdges(t *testing.T) {
	img, h := alone(t, api.Ins{Op: api.OBcc, Cond: 12, Imm: 4})
	for _, f := range edges() {
		m, o := put(t, img, h, smallInput, from())
		if !allowed(f) {
			o.step(api.Fault{})
		} else {
			o.step(f)
		}
		m.Step(f)
		if m.State() != o.s {
			t.Errorf("%+v: %+v, want %+v", f, m.State(), o.s)
		}
	}
}

func TestStepOfFaultIsNotLookedAt(t *testing.T) {
	img, h := alone(t, api.Ins{Op: api.OLdr, Rd: 3, Rn: 1})
	for _, step := range append([]int{-2, -1, 0, 1, 2, 7}, far...) {
		for _, f := range faults(step) {
			m, o := put(t, img, h, smallInput, from())
			now := f
			now.Step = 0
			want, _ := o.step(now)
			if v, ok := m.Step(f); v != want || !ok || m.State() != o.s {
				t.Errorf("%+v: %+v, %v, want %+v", f, v, ok, want)
			}
		}
	}
}

func TestNoRegion(t *testing.T) {
	m := made(t, stop(t), smallInput)
	for range 2 {
		for _, k := range append([]int{-1, -2, -7, -100, 7, 8, 9, 100, inBase}, far...) {
			if s, e := m.Region(k); s != "" || e != api.ErrArg {
				t.Errorf("Region(%d): %x, %d", k, s, e)
			}
		}
		m.Step(api.Fault{})
	}
	if !m.Done() {
		t.Error("not done")
	}
}

// What Region told stays as it was; the flash never changes.
func TestRegionsTold(t *testing.T) {
	p := writes(t)
	m := made(t, p, smallInput)
	early := regions(t, m)
	for !m.Done() {
		m.Step(api.Fault{})
	}
	if early != fresh(small, p, smallInput) {
		t.Errorf("what was told is other now: %x", early)
	}
	if late := regions(t, m); late[0] != p || late[1] == smallInput || late[2] == early[2] || late[3] == early[3] || late[4] == early[4] || late[5] == early[5] || late[6] == early[6] {
		t.Errorf("%x", late)
	}
}

// P9.3

// writes is an image that writes into each region that may be written, and then halts; its handler clears the output's second word and halts too. The input's first word comes to the output, the second one to rail 0, their sum to rail 1.
func writes(t *testing.T) string {
	t.Helper()
	l := slices.Concat(
		moves(1, inBase), moves(2, inBase+4), moves(3, outBase+4),
		[]api.Ins{{Op: api.OLdr, Rd: 4, Rn: 1}, {Op: api.OLdr, Rd: 5, Rn: 2}, {Op: api.OStr, Rd: 4, Rn: 3}},
		moves(3, aBase+8), []api.Ins{{Op: api.OStr, Rd: 5, Rn: 3}},
		moves(3, bBase), []api.Ins{{Op: api.OAdd, Rd: 6, Rn: 4, Rm: 5}, {Op: api.OStr, Rd: 6, Rn: 3}},
		moves(3, commitBase), []api.Ins{{Op: api.OStr, Rd: 4, Rn: 3}},
		moves(3, statusBase), []api.Ins{{Op: api.OStrb, Rd: 5, Rn: 3}, {Op: api.OStrb, Rd: 6, Rn: 1}, {Op: api.OBkpt}},
	)
	handler := slices.Concat([]api.Ins{{Op: api.OMovw, Rd: 0, Imm: 0}}, moves(7, outBase+4), []api.Ins{{Op: api.OStr, Rd: 0, Rn: 7}, {Op: api.OBkpt}})
	c := encoded(t, l...)
	return built(t, image.Head{Reset: 64, Handler: 64 + len(c), Sizes: small}, c+encoded(t, handler...))
}

// writesSteps is how many steps that has, writesCycles how many cycles: of two instructions for each of seven words, a sum and OBkpt one, and two of each load and store.
const (
	writesSteps  = 14 + 2 + 8
	writesCycles = 14 + 2 + 8*2
)

// written is what that leaves of smallInput.
var written = api.Result{
	Halted: true, Steps: writesSteps, Cycles: writesCycles, Commit: 0xff636261, Status: 0x65,
	Out: "\x00\x00\x00\x00abc\xff\x00\x00\x00\x00\x00\x00\x00\x00", A: "\x00\x00\x00\x00\x00\x00\x00\x00efg\x80", B: "\xc6\xc8\xca\x7f\x00\x00\x00\x00\x00\x00\x00\x00",
}

// ran fails if a run is not that.
func ran(t *testing.T, img, input string, f api.Fault, budget int, want api.Result) {
	t.Helper()
	if r, e := Run(img, input, f, budget); r != want || e != api.OK {
		t.Errorf("run with %+v within %d:\n%#v, %d, want\n%#v", f, budget, r, e, want)
	}
}

// told tells what a run of an image leaves by the document's words, and its events.
func told(t *testing.T, img, input string, f api.Fault, budget int) (api.Result, []api.Event) {
	t.Helper()
	h, e := image.Parse(img)
	if e != api.OK {
		t.Fatal(e)
	}
	return spell(h, img, input).run(f, budget)
}

func TestExample(t *testing.T) {
	img := built(t, image.Head{Reset: 64, Handler: 64, Sizes: api.Sizes{Rail: 4}}, encoded(t, api.Ins{Op: api.OBkpt}))
	ran(t, img, "", api.Fault{}, 100, api.Result{Halted: true, Steps: 1, Cycles: 1, Handled: 1, A: "\x00\x00\x00\x00", B: "\x00\x00\x00\x00"})
	code := encoded(t, api.Ins{Op: api.OMovw, Rd: 1, Imm: 2}, api.Ins{Op: api.OLdr, Rd: 0, Rn: 1})
	img = built(t, image.Head{Reset: 64, Handler: 68, Sizes: api.Sizes{Rail: 4}}, code)
	for _, n := range []int{2, 3, 4, 1000, long + 1} {
		ran(t, img, "", api.Fault{}, n, api.Result{Steps: n, Cycles: 1 + 12*(n-1), Handled: n - 1, A: "\x00\x00\x00\x00", B: "\x00\x00\x00\x00"})
	}
	l, e := Trace(img, "", 4)
	trap := api.Event{Kind: api.VTrap, PC: 68, Addr: 2, Cycles: 12}
	if e != api.OK || !slices.Equal(l, []api.Event{{PC: 64, Cycles: 1}, trap, trap, trap}) {
		t.Errorf("%+v, %d", l, e)
	}
}

func TestRunSaid(t *testing.T) {
	p := writes(t)
	ran(t, p, smallInput, api.Fault{}, writesSteps, written)
	ran(t, p, smallInput, api.Fault{}, most, written)

	// Of the 10 steps up to the output's store the last one is skipped.
	want := written
	want.Cycles, want.Out = writesCycles-1, strings.Repeat("\x00", 16)
	ran(t, p, smallInput, api.Fault{Kind: api.FSkip, Step: 8}, most, want)

	// An address that is turned there leads to the handler, which has five steps.
	ran(t, p, smallInput, api.Fault{Kind: api.FFlip, Step: 8, Reg: 3, Bit: 16}, most, api.Result{
		Halted: true, Steps: 14, Cycles: 6 + 4 + 12 + 4 + 2, Handled: 1,
		Out: strings.Repeat("\x00", 16), A: strings.Repeat("\x00", 12), B: strings.Repeat("\x00", 12),
	})

	// At the last step OBkpt is skipped, and the handler follows: it clears what is in the output.
	want = written
	want.Steps, want.Cycles, want.Handled, want.Out = writesSteps+5, writesCycles+6, 1, strings.Repeat("\x00", 16)
	ran(t, p, smallInput, api.Fault{Kind: api.FSkip, Step: writesSteps - 1}, most, want)
}

func TestRunBudgets(t *testing.T) {
	p := writes(t)
	for n := range writesSteps + 4 {
		want, _ := told(t, p, smallInput, api.Fault{}, n)
		if want.Halted != (n >= writesSteps) || want.Steps != min(n, writesSteps) {
			t.Fatalf("within %d: %+v", n, want)
		}
		ran(t, p, smallInput, api.Fault{}, n, want)
	}
	for _, n := range []int{writesSteps + 1000, long - 1, long, long + 1, most - 1, most} {
		ran(t, p, smallInput, api.Fault{}, n, written)
	}
	for _, n := range append([]int{-1, -2, -writesSteps, most + 1, most + 2, 2 * most}, far...) {
		if r, e := Run(p, smallInput, api.Fault{}, n); r != (api.Result{}) || e != api.ErrArg {
			t.Errorf("within %d: %+v, %d", n, r, e)
		}
		if r, e := Run(p, "", api.Fault{}, n); r != (api.Result{}) || e != api.ErrArg {
			t.Errorf("within %d, without input: %+v, %d", n, r, e)
		}
	}
	none := fresh(small, p, smallInput)
	ran(t, p, smallInput, api.Fault{}, 0, api.Result{Out: none[2], A: none[3], B: none[4]})
	ran(t, stop(t), smallInput, api.Fault{}, 0, api.Result{Out: none[2], A: none[3], B: none[4]})
	ran(t, stop(t), smallInput, api.Fault{}, 1, api.Result{Halted: true, Steps: 1, Cycles: 1, Handled: 1, Out: none[2], A: none[3], B: none[4]})
}

func TestRunRefusesFaults(t *testing.T) {
	p := writes(t)
	for _, f := range edges() {
		for _, step := range []int{-1, 0, writesSteps, math.MinInt, math.MaxInt} {
			f.Step = step
			want := api.ErrArg
			if step >= 0 && allowed(f) {
				want = api.OK
			}
			if r, e := Run(p, smallInput, f, 1); e != want || (r != api.Result{}) != (want == api.OK) {
				t.Errorf("%+v: %+v, %d, want %d", f, r, e, want)
			}
		}
	}
}

// All faults at all steps, the first and the last one among them, and behind these.
func TestRunFaults(t *testing.T) {
	p := writes(t)
	for step := range writesSteps + 2 {
		for k, f := range faults(step) {
			budget := writesSteps + 6 - k%9
			want, _ := told(t, p, smallInput, f, budget)
			ran(t, p, smallInput, f, budget, want)
		}
	}
}

// Steps that begin at the handler: done, skipped and trapped ones, each time that they come by.
func TestRunHandled(t *testing.T) {
	nop, back := api.Ins{Op: api.ONop}, api.Ins{Op: api.OB, Imm: -6}
	img := func(reset, handler int, code string) string {
		return built(t, image.Head{Reset: reset, Handler: handler, Sizes: api.Sizes{Rail: 4}}, code)
	}
	loop := encoded(t, nop, back)
	bad := "\x00\x00"
	for _, x := range []struct {
		img    string
		f      api.Fault
		budget int
		want   api.Result
	}{
		{img(64, 64, loop), api.Fault{}, 9, api.Result{Steps: 9, Cycles: 5 + 4*3, Handled: 5}},
		{img(64, 66, loop), api.Fault{}, 9, api.Result{Steps: 9, Cycles: 5 + 4*3, Handled: 4}},
		{img(66, 64, loop), api.Fault{}, 9, api.Result{Steps: 9, Cycles: 4 + 5*3, Handled: 4}},
		{img(64, 64, loop), api.Fault{Kind: api.FSkip}, 9, api.Result{Steps: 9, Cycles: 5 + 4*3, Handled: 5}},
		{img(64, 64, loop), api.Fault{Kind: api.FSkip, Step: 1}, 9, api.Result{Steps: 9, Cycles: 1 + 1 + 12 + 3*4, Handled: 4}},
		{img(64, 64, bad), api.Fault{}, 7, api.Result{Steps: 7, Cycles: 84, Handled: 7}},
		{img(66, 64, bad+bad), api.Fault{}, 7, api.Result{Steps: 7, Cycles: 84, Handled: 6}},
		{img(66, 64, encoded(t, api.Ins{Op: api.OB, Imm: -2})+bad), api.Fault{}, 7, api.Result{Steps: 7, Cycles: 4*12 + 3*3, Handled: 3}},
		{img(66, 64, encoded(t, api.Ins{Op: api.OBkpt})+bad), api.Fault{}, 7, api.Result{Halted: true, Steps: 2, Cycles: 13, Handled: 1}},
		{img(64, 66, encoded(t, api.Ins{Op: api.OBkpt})+bad), api.Fault{}, 7, api.Result{Halted: true, Steps: 1, Cycles: 1}},
	} {
		x.want.A, x.want.B = "\x00\x00\x00\x00", "\x00\x00\x00\x00"
		ran(t, x.img, "", x.f, x.budget, x.want)
	}
}

// P9.4

// traced fails if a trace is not that.
func traced(t *testing.T, img, input string, budget int, want []api.Event) {
	t.Helper()
	if l, e := Trace(img, input, budget); !slices.Equal(l, want) || e != api.OK {
		t.Errorf("trace within %d: %+v, %d, want %+v", budget, l, e, want)
	}
}

func TestTraceSaid(t *testing.T) {
	c := encoded(t, slices.Concat(moves(1, inBase+4), []api.Ins{{Op: api.OLdrb, Rd: 2, Rn: 1}, {Op: api.OCmp, Rn: 2, Rm: 2}, {Op: api.OBcc, Cond: api.NE, Imm: -4}, {Op: api.OBcc, Cond: api.EQ, Imm: 0, Wide: true}, {Op: api.OUmull, Ra: 5, Rn: 1, Rm: 1}, {Op: api.OStr, Rd: 3, Rn: 2}, {Op: api.OBkpt}})...)
	p := built(t, image.Head{Reset: 64, Handler: 64 + len(c) - 2, Sizes: small}, c)
	traced(t, p, smallInput, long, []api.Event{
		{PC: 64, Cycles: 1}, {PC: 68, Cycles: 1}, {PC: 72, Addr: inBase + 4, Cycles: 2}, {PC: 74, Cycles: 1}, {PC: 76, Cycles: 1}, {PC: 78, Cycles: 3}, {PC: 82, Cycles: 4}, {Kind: api.VTrap, PC: 86, Addr: 0x65, Cycles: 12}, {PC: 88, Cycles: 1},
	})
}

func TestTraceBudgets(t *testing.T) {
	p := writes(t)
	_, want := told(t, p, smallInput, api.Fault{}, most)
	if len(want) != writesSteps {
		t.Fatal(len(want))
	}
	for n := range writesSteps + 4 {
		traced(t, p, smallInput, n, want[:min(n, writesSteps)])
	}
	for _, n := range []int{1000, long - 1, long} {
		traced(t, p, smallInput, n, want)
	}
	for _, n := range append([]int{-1, -2, -writesSteps, long + 1, long + 2, most, most + 1}, far...) {
		if l, e := Trace(p, smallInput, n); len(l) != 0 || e != api.ErrArg {
			t.Errorf("within %d: %v, %d", n, l, e)
		}
		if l, e := Trace(p, smallInput[1:], n); len(l) != 0 || e != api.ErrArg {
			t.Errorf("within %d, with less input: %v, %d", n, l, e)
		}
	}
}

// The longest trace of what never halts has all of its events.
func TestTraceLong(t *testing.T) {
	p := built(t, image.Head{Reset: 64, Handler: 66, Sizes: small}, encoded(t, api.Ins{Op: api.OB, Imm: -2})+"\x00\x00")
	for _, n := range []int{0, 1, 2, 5, long - 1, long} {
		l, e := Trace(p, smallInput, n)
		if len(l) != n || e != api.OK {
			t.Fatalf("within %d: %d, %d", n, len(l), e)
		}
		for k, v := range l {
			want := api.Event{Kind: api.VTrap, PC: 66, Cycles: 12}
			if k == 0 {
				want = api.Event{PC: 64, Cycles: 3}
			}
			if v != want {
				t.Fatalf("event %d: %+v", k, v)
			}
		}
	}
}

// Two answers share nothing.
func TestTracesApart(t *testing.T) {
	p := writes(t)
	first, _ := Trace(p, smallInput, long)
	second, _ := Trace(p, smallInput, long)
	clear(first)
	_, want := told(t, p, smallInput, api.Fault{}, most)
	if !slices.Equal(second, want) {
		t.Errorf("%+v", second)
	}
	traced(t, p, smallInput, long, want)
}

// P9.5

func TestFaultBehindLastStep(t *testing.T) {
	p := writes(t)
	for _, step := range []int{writesSteps, writesSteps + 1, writesSteps + 1000, most, most + 1, 1 << 32, math.MaxInt - 1, math.MaxInt} {
		for _, f := range faults(step) {
			ran(t, p, smallInput, f, most, written)
		}
	}
	// A run that is cut off has no step behind its budget either.
	for _, n := range []int{0, 1, 5, 9, writesSteps - 1} {
		want, _ := told(t, p, smallInput, api.Fault{}, n)
		for _, f := range faults(n) {
			ran(t, p, smallInput, f, n, want)
		}
	}
}

func TestMoreBudget(t *testing.T) {
	p := writes(t)
	for step := range writesSteps {
		for _, f := range faults(step) {
			r, e := Run(p, smallInput, f, 3*writesSteps)
			if !r.Halted || e != api.OK {
				t.Fatalf("%+v: %+v, %d", f, r, e)
			}
			for _, n := range []int{r.Steps, r.Steps + 1, 1000, most} {
				ran(t, p, smallInput, f, n, r)
			}
			if less, _ := Run(p, smallInput, f, r.Steps-1); less.Halted || less.Steps != r.Steps-1 {
				t.Errorf("%+v within one less: %+v", f, less)
			}
		}
	}
}

// P9.6

// chance hands over numbers that look like chance, the same ones each time.
type chance uint64

func (c *chance) below(n int) int {
	*c = *c*6364136223846793005 + 1442695040888963407
	return int(*c>>33) % n
}

// any tells an instruction, mostly one that leaves the registers alone in which the addresses are.
func (c *chance) any() api.Ins {
	for {
		i := api.Ins{Op: 1 + c.below(25)}
		switch i.Op {
		case api.OBkpt:
			if c.below(3) == 0 {
				continue
			}
		case api.OMovw, api.OMovt:
			i.Rd, i.Imm = 8+c.below(5), c.below(65536)
		case api.OLdr, api.OStr, api.OLdrb, api.OStrb:
			i.Rd, i.Rn = c.below(8), c.below(7)
			if i.Op == api.OLdr || i.Op == api.OLdrb {
				i.Rd = 7
			}
		case api.OCmp:
			i.Rn, i.Rm = c.below(8), c.below(8)
		case api.OB, api.OBcc:
			i.Imm, i.Wide = 2*(c.below(60)-20), c.below(2) == 0
			if i.Op == api.OBcc {
				i.Cond = c.below(14)
			}
		default:
			i.Rd, i.Rn, i.Rm = 7+c.below(6), c.below(13), c.below(13)
			if c.below(12) == 0 {
				i.Rd = c.below(7)
			}
			if i.Op < api.OAnd {
				i.Rn = 0
			}
			if i.Op < api.OMvn || i.Op == api.OBfi {
				i.Imm = c.below(32)
			}
			if i.Op == api.OBfi {
				i.Rm, i.Ra = 0, 1+c.below(32-i.Imm)
			}
			if i.Op == api.OUmull {
				i.Ra = c.below(13)
			}
		}
		if thumb.Check(i) == api.OK {
			return i
		}
	}
}

// fault tells a fault at one of the first steps, or a bit behind them.
func (c *chance) fault(steps int) api.Fault {
	l := faults(c.below(steps))
	if c.below(2) == 0 {
		return l[c.below(2)]
	}
	return l[c.below(len(l))]
}

// program tells an image of instructions, and a few bytes that are none, and its input.
func (c *chance) program(t *testing.T) (string, string) {
	s := api.Sizes{In: 4 * c.below(4), Out: 4 * c.below(4), Rail: 4 + 4*c.below(4)}
	var code string
	for r, base := range []int{inBase, outBase, aBase, bBase, commitBase, statusBase, 0} {
		code += encoded(t, moves(r, base+c.below(4)*c.below(5))...)
	}
	for range 30 {
		if c.below(40) == 0 {
			code += "\x00\x00"
		}
		code += encoded(t, c.any())
	}
	var input []byte
	for range s.In {
		input = append(input, byte(c.below(256)))
	}
	h := image.Head{Reset: 64, Handler: 64 + 7*8 + 2*c.below(20), Sizes: s, Mode: c.below(3)}
	return built(t, h, code), string(input)
}

// seen is how often something came of programs of chance.
type seen struct{ done, skipped, trapped, asked, refused, halted int }

// add counts events.
func (n *seen) add(l []api.Event, halted bool) {
	for _, v := range l {
		switch {
		case v.Kind == api.VDone && v.Addr != 0:
			n.asked++
		case v.Kind == api.VDone:
			n.done++
		case v.Kind == api.VSkip:
			n.skipped++
		case v.Addr != 0:
			n.refused++
		default:
			n.trapped++
		}
	}
	if halted {
		n.halted++
	}
}

// Programs of chance, with and without a fault: their runs, traces and steps are those of the document's words.
func TestRunIsItsSteps(t *testing.T) {
	c := chance(9)
	var n seen
	for range 3000 {
		img, input := c.program(t)
		f, budget := c.fault(60), c.below(200)
		want, events := told(t, img, input, f, budget)
		n.add(events, want.Halted)
		ran(t, img, input, f, budget, want)
		m := made(t, img, input)
		for k, x := range events {
			now := api.Fault{}
			if k == f.Step {
				now = f
			}
			if v, ok := m.Step(now); v != x || !ok {
				t.Fatalf("step %d with %+v: %+v, %v, want %+v", k, now, v, ok, x)
			}
		}
		if l := regions(t, m); m.Done() != want.Halted || l[2] != want.Out || l[3] != want.A || l[4] != want.B {
			t.Errorf("behind the steps: %v, %x, want %+v", m.Done(), l[1:], want)
		}
		_, events = told(t, img, input, api.Fault{}, budget)
		traced(t, img, input, budget, events)
	}
	if n.done < 20000 || n.skipped < 200 || n.trapped < 1000 || n.asked < 2000 || n.refused < 1000 || n.halted < 300 {
		t.Errorf("too little of something: %+v", n)
	}
}

// Programs of chance with a fault at each step, or at many: the steps are those of the document's words.
func TestStepsWithManyFaults(t *testing.T) {
	c := chance(31)
	for range 200 {
		img, input := c.program(t)
		h, _ := image.Parse(img)
		m, o := made(t, img, input), spell(h, img, input)
		for range 60 {
			stepped(t, m, o, c.fault(1))
		}
	}
}

// A run hangs on nothing but what it is given.
func TestRunAgain(t *testing.T) {
	c := chance(77)
	for range 100 {
		img, input := c.program(t)
		first, _ := Run(img, input, api.Fault{}, 100)
		Run(img, input, c.fault(30), 100)
		Run(writes(t), smallInput, api.Fault{}, 100)
		ran(t, strings.Clone(img), strings.Clone(input), api.Fault{}, 100, first)
	}
}
