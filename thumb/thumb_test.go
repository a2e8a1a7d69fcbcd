package thumb

import (
	"fmt"
	"math"
	"strings"
	"testing"

	"hauberk/api"
)

// row is a row of the document's table: its bits as they are written there, the greatest register, and Imm's least and greatest number.
type row struct {
	name      string
	op        int
	wide      bool
	bits      string
	reg       int
	low, high int
}

func table() []row {
	return []row{
		{"ONop", api.ONop, false, "1011111100000000", 7, 0, 0},
		{"OBkpt", api.OBkpt, false, "10111110HGFEDCBA", 7, 0, 255},
		{"OMovw", api.OMovw, false, "11110L100100PONM 0KJIddddHGFEDCBA", 12, 0, 65535},
		{"OMovt", api.OMovt, false, "11110L101100PONM 0KJIddddHGFEDCBA", 12, 0, 65535},
		{"OLsl", api.OLsl, false, "1110101001001111 0EDCddddBA00mmmm", 12, 0, 31},
		{"OLsr", api.OLsr, false, "1110101001001111 0EDCddddBA01mmmm", 12, 1, 31},
		{"OAsr", api.OAsr, false, "1110101001001111 0EDCddddBA10mmmm", 12, 1, 31},
		{"ORor", api.ORor, false, "1110101001001111 0EDCddddBA11mmmm", 12, 1, 31},
		{"OMvn", api.OMvn, false, "1110101001101111 0000dddd0000mmmm", 12, 0, 0},
		{"OAnd", api.OAnd, false, "111010100000nnnn 0000dddd0000mmmm", 12, 0, 0},
		{"OBic", api.OBic, false, "111010100010nnnn 0000dddd0000mmmm", 12, 0, 0},
		{"OOrr", api.OOrr, false, "111010100100nnnn 0000dddd0000mmmm", 12, 0, 0},
		{"OEor", api.OEor, false, "111010101000nnnn 0000dddd0000mmmm", 12, 0, 0},
		{"OAdd", api.OAdd, false, "111010110000nnnn 0000dddd0000mmmm", 12, 0, 0},
		{"OSub", api.OSub, false, "111010111010nnnn 0000dddd0000mmmm", 12, 0, 0},
		{"OMul", api.OMul, false, "111110110000nnnn 1111dddd0000mmmm", 12, 0, 0},
		{"OUmull", api.OUmull, false, "111110111010nnnn ddddaaaa0000mmmm", 12, 0, 0},
		{"OBfi", api.OBfi, false, "111100110110nnnn 0EDCddddBA0wwwww", 12, 0, 31},
		{"OLdr", api.OLdr, false, "0110100000nnnddd", 7, 0, 0},
		{"OStr", api.OStr, false, "0110000000nnnddd", 7, 0, 0},
		{"OLdrb", api.OLdrb, false, "0111100000nnnddd", 7, 0, 0},
		{"OStrb", api.OStrb, false, "0111000000nnnddd", 7, 0, 0},
		{"OCmp", api.OCmp, false, "0100001010mmmnnn", 7, 0, 0},
		{"OB", api.OB, false, "11100LKJIHGFEDCB", 7, -2048, 2046},
		{"OB wide", api.OB, true, "11110YVUTSRQPONM 10x1yLKJIHGFEDCB", 12, -16777216, 16777214},
		{"OBcc", api.OBcc, false, "1101ccccIHGFEDCB", 7, -256, 254},
		{"OBcc wide", api.OBcc, true, "11110UccccRQPONM 10S0TLKJIHGFEDCB", 12, -1048576, 1048574},
	}
}

func (r row) branch() bool { return r.op == api.OB || r.op == api.OBcc }

func (r row) size() int { return len(strings.ReplaceAll(r.bits, " ", "")) / 8 }

func (r row) tells(letter string) bool { return strings.Contains(r.bits, letter) }

// plain tells an instruction of the row with all fields as small as they may be.
func (r row) plain() api.Ins {
	i := api.Ins{Op: r.op, Wide: r.wide, Imm: r.low}
	if r.op == api.OUmull || r.op == api.OBfi {
		i.Ra = 1
	}
	return i
}

// written tells an instruction's bytes letter by letter of the table's bits, from the last one to the first.
func (r row) written(i api.Ins) string {
	n := i.Imm
	if n < 0 {
		n += 1 << 25
	}
	left := map[rune]int{'d': i.Rd, 'n': i.Rn, 'm': i.Rm, 'a': i.Ra, 'c': i.Cond, 'w': i.Imm + i.Ra - 1}
	letters := []rune(strings.ReplaceAll(r.bits, " ", ""))
	bits := make([]int, len(letters))
	for k := len(letters) - 1; k >= 0; k-- {
		switch c := letters[k]; {
		case c == '0' || c == '1':
			bits[k] = int(c - '0')
		case 'A' <= c && c <= 'Y':
			bits[k] = n / power(int(c-'A')) % 2
		case c == 'x' && n/power(23)%2 == n/power(24)%2, c == 'y' && n/power(22)%2 == n/power(24)%2:
			bits[k] = 1
		case c != 'x' && c != 'y':
			bits[k] = left[c] % 2
			left[c] /= 2
		}
	}
	var b []byte
	for k := 0; k < len(bits); k += 16 {
		b = append(b, eight(bits[k+8:k+16]), eight(bits[k:k+8]))
	}
	return string(b)
}

func power(k int) int { return 1 << k }

func eight(bits []int) byte {
	n := 0
	for _, b := range bits {
		n = 2*n + b
	}
	return byte(n)
}

// numbers tells numbers that Imm may be in a row: both edges, those about powers of two, some between; all of them, if there are few.
func (r row) numbers() []int {
	step, far := 1, 1
	if r.branch() {
		step = 2
	}
	if r.high-r.low > 1<<17 {
		far = 1009
	}
	var l []int
	for n := r.low; n <= r.high; n += step * far {
		l = append(l, n)
	}
	if far == 1 {
		return l
	}
	for k := 1; k <= 24; k++ {
		for _, n := range []int{power(k) - 2, power(k), power(k) + 2, 2 - power(k), -power(k), -2 - power(k)} {
			if r.low <= n && n <= r.high && n%2 == 0 {
				l = append(l, n)
			}
		}
	}
	return append(l, r.high)
}

// upTo tells the numbers of a field, if the row tells it, else 0 alone.
func (r row) upTo(letter string, most int) []int {
	l := []int{0}
	for n := 1; r.tells(letter) && n <= most; n++ {
		l = append(l, n)
	}
	return l
}

// every goes through instructions of the row: all registers, conditions and widths, each with all of Imm's numbers; where these are too many for that, with a few, and apart from that all numbers with the other fields at their edges.
func (r row) every(f func(i api.Ins)) {
	imms := r.numbers()
	if r.op == api.OMovw || r.op == api.OMovt || r.op == api.OBcc && r.wide {
		r.someNumbers(f)
		imms = []int{r.low, r.low + 2, 0x1234, r.high - 2, r.high}
	}
	for _, d := range r.upTo("d", r.reg) {
		for _, n := range r.upTo("n", r.reg) {
			for _, m := range r.upTo("m", r.reg) {
				for _, c := range r.upTo("c", 13) {
					for _, k := range imms {
						r.everyRa(api.Ins{Op: r.op, Rd: d, Rn: n, Rm: m, Imm: k, Cond: c, Wide: r.wide}, f)
					}
				}
			}
		}
	}
}

// someNumbers goes through all numbers with the other fields at their edges.
func (r row) someNumbers(f func(i api.Ins)) {
	for _, k := range r.numbers() {
		i := r.plain()
		i.Imm = k
		f(i)
		if r.tells("d") {
			i.Rd = r.reg
		}
		if r.tells("c") {
			i.Cond = 13
		}
		f(i)
	}
}

func (r row) everyRa(i api.Ins, f func(i api.Ins)) {
	switch r.op {
	case api.OBfi:
		for i.Ra = 1; i.Ra <= 32-i.Imm; i.Ra++ {
			f(i)
		}
	case api.OUmull:
		for i.Ra = 0; i.Ra <= r.reg; i.Ra++ {
			if i.Ra != i.Rd {
				f(i)
			}
		}
	default:
		f(i)
	}
}

// refused holds that an instruction has an error, and no size and no bytes.
func refused(t *testing.T, name string, i api.Ins, want api.Errno) {
	t.Helper()
	if e := Check(i); e != want {
		t.Errorf("%s: Check(%+v): got %d, want %d", name, i, e, want)
	}
	if n := Size(i); n != 0 {
		t.Errorf("%s: Size(%+v): got %d, want 0", name, i, n)
	}
	if s, e := Encode(i); s != "" || e != want {
		t.Errorf("%s: Encode(%+v): got %x %d, want none %d", name, i, s, e, want)
	}
}

// taken holds that an instruction is one, with the row's size and bytes.
func taken(t *testing.T, r row, i api.Ins) {
	t.Helper()
	if e := Check(i); e != api.OK {
		t.Fatalf("%s: Check(%+v): got %d, want OK", r.name, i, e)
	}
	if n := Size(i); n != r.size() {
		t.Fatalf("%s: Size(%+v): got %d, want %d", r.name, i, n, r.size())
	}
	if s, e := Encode(i); s != r.written(i) || e != api.OK {
		t.Fatalf("%s: Encode(%+v): got %x %d, want %x", r.name, i, s, e, r.written(i))
	}
}

// P2.1

// fieldsOf tells an instruction's fields by the letters that they have in the table's bits; Ra and Imm, which are told otherwise, by A and I.
func fieldsOf(i *api.Ins) map[string]*int {
	return map[string]*int{"d": &i.Rd, "n": &i.Rn, "m": &i.Rm, "c": &i.Cond, "A": &i.Ra, "I": &i.Imm}
}

// edges tells the least and the greatest number of a field of the row, where the others are as in plain.
func (r row) edges(letter string) (int, int) {
	switch {
	case letter == "I":
		return r.low, r.high
	case letter == "A" && r.op == api.OBfi:
		return 1, 32
	case letter == "A" && r.op == api.OUmull:
		return 1, 12
	case letter == "c" && r.tells("c"):
		return 0, 13
	case letter == "d" && r.op == api.OUmull:
		return 2, 12 // 1 is Ra in plain
	case letter != "A" && r.tells(letter):
		return 0, r.reg
	}
	return 0, 0
}

func TestFieldEdges(t *testing.T) {
	for _, r := range table() {
		for letter := range fieldsOf(new(api.Ins)) {
			low, high := r.edges(letter)
			want, step := api.ErrArg, 1
			if letter == "I" && r.branch() {
				want, step = api.ErrRange, 2
			}
			for _, n := range []int{low, high} {
				i := r.plain()
				*fieldsOf(&i)[letter] = n
				if r.op == api.OBfi && letter == "I" {
					i.Ra = 32 - n
				}
				taken(t, r, i)
			}
			for _, n := range []int{low - 1, low - step, high + 1, high + step, -1 - 1<<32, 1<<32 + high, 1<<32 + low, math.MinInt, math.MaxInt, math.MaxInt - 1} {
				i := r.plain()
				*fieldsOf(&i)[letter] = n
				refused(t, r.name+" "+letter, i, want)
			}
		}
	}
}

func TestFieldsNotTold(t *testing.T) {
	for _, r := range table() {
		for letter := range fieldsOf(new(api.Ins)) {
			if low, high := r.edges(letter); low != 0 || high != 0 {
				continue
			}
			for _, n := range []int{1, 2, 7, -1, 1 << 40, math.MinInt, math.MaxInt} {
				i := r.plain()
				*fieldsOf(&i)[letter] = n
				refused(t, r.name+" "+letter, i, api.ErrArg)
			}
		}
		if !r.branch() {
			i := r.plain()
			i.Wide = true
			refused(t, r.name+" wide", i, api.ErrArg)
		}
	}
}

func TestEachRegisterAlone(t *testing.T) {
	for _, r := range table() {
		for _, letter := range []string{"d", "n", "m"} {
			for n := -2; n <= 16; n++ {
				i := r.plain()
				*fieldsOf(&i)[letter] = n
				low, high := r.edges(letter)
				if low == 2 && n == 0 || low <= n && n <= high {
					taken(t, r, i)
				} else {
					refused(t, r.name+" "+letter, i, api.ErrArg)
				}
			}
		}
	}
}

func TestUpperHalfIsAnotherRegister(t *testing.T) {
	r := find("OUmull")
	for d := -1; d <= 14; d++ {
		for a := -1; a <= 14; a++ {
			i := api.Ins{Op: api.OUmull, Rd: d, Ra: a, Rn: d, Rm: a}
			if 0 <= d && d <= 12 && 0 <= a && a <= 12 && a != d {
				taken(t, r, i)
			} else {
				refused(t, r.name, i, api.ErrArg)
			}
		}
	}
}

func TestWidths(t *testing.T) {
	r := find("OBfi")
	for n := -2; n <= 34; n++ {
		for a := -2; a <= 36; a++ {
			i := api.Ins{Op: api.OBfi, Rd: 12, Rn: 3, Imm: n, Ra: a}
			if 0 <= n && n <= 31 && 1 <= a && a+n <= 32 {
				taken(t, r, i)
			} else {
				refused(t, r.name, i, api.ErrArg)
			}
		}
	}
	for _, n := range []int{math.MinInt, math.MinInt + 31, math.MinInt + 32, math.MinInt + 33, math.MaxInt} {
		for _, a := range []int{math.MinInt, 0, 1, 32, math.MaxInt} {
			refused(t, r.name, api.Ins{Op: api.OBfi, Imm: n, Ra: a}, api.ErrArg)
		}
	}
}

func find(name string) row {
	for _, r := range table() {
		if r.name == name {
			return r
		}
	}
	panic("no row " + name)
}

func TestNoSuchOp(t *testing.T) {
	for _, op := range []int{0, -1, -api.OAdd, api.OBcc + 1, api.OBcc + 2, 255, 256 + api.ONop, 1<<32 + api.ONop, 1<<32 + api.OB, math.MinInt, math.MaxInt} {
		refused(t, "none", api.Ins{Op: op}, api.ErrArg)
		refused(t, "none", api.Ins{Op: op, Imm: 3, Wide: true}, api.ErrArg)
		for _, wide := range []bool{false, true} {
			if a, b := Reach(op, wide); a != 0 || b != 0 {
				t.Errorf("Reach(%d, %v): got %d %d, want 0 0", op, wide, a, b)
			}
		}
	}
}

func TestReach(t *testing.T) {
	for op := api.ONop; op <= api.OCmp; op++ {
		for _, wide := range []bool{false, true} {
			if a, b := Reach(op, wide); a != 0 || b != 0 {
				t.Errorf("Reach(%d, %v): got %d %d, want 0 0", op, wide, a, b)
			}
		}
	}
	for _, r := range table() {
		if !r.branch() {
			continue
		}
		if a, b := Reach(r.op, r.wide); a != r.low || b != r.high {
			t.Errorf("Reach of %s: got %d %d, want %d %d", r.name, a, b, r.low, r.high)
		}
		for _, n := range []int{r.low - 2, r.low - 1, r.low + 1, -3, -1, 1, 3, r.high - 1, r.high + 1, r.high + 2, 1<<25 - 4, 1 << 32, math.MinInt, math.MaxInt} {
			refused(t, r.name, api.Ins{Op: r.op, Wide: r.wide, Imm: n}, api.ErrRange)
		}
	}
}

func TestArgIsToldAheadOfRange(t *testing.T) {
	for _, wide := range []bool{false, true} {
		for _, n := range []int{1, -1, 1 << 24, math.MinInt, math.MaxInt} {
			refused(t, "Cond 14", api.Ins{Op: api.OBcc, Cond: 14, Imm: n, Wide: wide}, api.ErrArg)
			refused(t, "Cond -1", api.Ins{Op: api.OBcc, Cond: -1, Imm: n, Wide: wide}, api.ErrArg)
			refused(t, "Cond of OB", api.Ins{Op: api.OB, Cond: 1, Imm: n, Wide: wide}, api.ErrArg)
			refused(t, "Rd of OB", api.Ins{Op: api.OB, Rd: 1, Imm: n, Wide: wide}, api.ErrArg)
			refused(t, "Ra of OBcc", api.Ins{Op: api.OBcc, Ra: -1, Imm: n, Wide: wide}, api.ErrArg)
		}
	}
}

// P2.2

func TestBytesWrittenOut(t *testing.T) {
	for _, x := range []struct {
		i    api.Ins
		want string
	}{
		{api.Ins{Op: api.ONop}, "00bf"},
		{api.Ins{Op: api.OBkpt}, "00be"},
		{api.Ins{Op: api.OBkpt, Imm: 255}, "ffbe"},
		{api.Ins{Op: api.OMovw, Rd: 1, Imm: 0x1234}, "41f23421"},
		{api.Ins{Op: api.OMovw, Rd: 12, Imm: 65535}, "4ff6ff7c"},
		{api.Ins{Op: api.OMovt, Rd: 2, Imm: 0x0800}, "c0f60002"},
		{api.Ins{Op: api.OLsl, Rd: 8, Rm: 9}, "4fea0908"},
		{api.Ins{Op: api.OLsl, Rd: 0, Rm: 1, Imm: 4}, "4fea0110"},
		{api.Ins{Op: api.OLsr, Rd: 12, Rm: 11, Imm: 31}, "4feadb7c"},
		{api.Ins{Op: api.OAsr, Rd: 1, Rm: 1, Imm: 1}, "4fea6101"},
		{api.Ins{Op: api.ORor, Rd: 3, Rm: 2, Imm: 8}, "4fea3223"},
		{api.Ins{Op: api.OMvn, Rd: 10, Rm: 5}, "6fea050a"},
		{api.Ins{Op: api.OAnd, Rd: 1, Rn: 2, Rm: 3}, "02ea0301"},
		{api.Ins{Op: api.OBic, Rd: 1, Rn: 2, Rm: 3}, "22ea0301"},
		{api.Ins{Op: api.OOrr, Rd: 1, Rn: 2, Rm: 3}, "42ea0301"},
		{api.Ins{Op: api.OEor, Rd: 1, Rn: 2, Rm: 3}, "82ea0301"},
		{api.Ins{Op: api.OAdd, Rd: 1, Rn: 2, Rm: 3}, "02eb0301"},
		{api.Ins{Op: api.OSub, Rd: 1, Rn: 2, Rm: 3}, "a2eb0301"},
		{api.Ins{Op: api.OMul, Rd: 1, Rn: 2, Rm: 3}, "02fb03f1"},
		{api.Ins{Op: api.OUmull, Rd: 1, Ra: 4, Rn: 2, Rm: 3}, "a2fb0314"},
		{api.Ins{Op: api.OBfi, Rd: 1, Rn: 2, Imm: 8, Ra: 8}, "62f30f21"},
		{api.Ins{Op: api.OBfi, Rd: 12, Rn: 12, Imm: 31, Ra: 1}, "6cf3df7c"},
		{api.Ins{Op: api.OLdr, Rd: 1, Rn: 2}, "1168"},
		{api.Ins{Op: api.OStr, Rd: 1, Rn: 2}, "1160"},
		{api.Ins{Op: api.OLdrb, Rd: 1, Rn: 2}, "1178"},
		{api.Ins{Op: api.OStrb, Rd: 1, Rn: 2}, "1170"},
		{api.Ins{Op: api.OCmp, Rn: 1, Rm: 2}, "9142"},
		{api.Ins{Op: api.OB, Imm: -4}, "fee7"},
		{api.Ins{Op: api.OB, Imm: -2048}, "00e4"},
		{api.Ins{Op: api.OB, Imm: 2046}, "ffe3"},
		{api.Ins{Op: api.OB, Wide: true, Imm: 16777214}, "fff3ff97"},
		{api.Ins{Op: api.OB, Wide: true, Imm: -16777216}, "00f40090"},
		{api.Ins{Op: api.OB, Wide: true, Imm: 1 << 22}, "00f000b0"},
		{api.Ins{Op: api.OB, Wide: true, Imm: 1 << 23}, "00f00098"},
		{api.Ins{Op: api.OBcc, Cond: 13, Imm: 254}, "7fdd"},
		{api.Ins{Op: api.OBcc, Cond: api.EQ, Imm: -256}, "80d0"},
		{api.Ins{Op: api.OBcc, Wide: true, Cond: api.CC, Imm: 1048574}, "fff0ffaf"},
		{api.Ins{Op: api.OBcc, Wide: true, Cond: api.CS, Imm: -1048576}, "80f40080"},
		{api.Ins{Op: api.OBcc, Wide: true, Cond: 13, Imm: 1 << 18}, "40f300a0"},
		{api.Ins{Op: api.OBcc, Wide: true, Cond: 13, Imm: 1 << 19}, "40f30088"},
	} {
		s, e := Encode(x.i)
		if got := fmt.Sprintf("%x", s); got != x.want || e != api.OK || Size(x.i) != len(x.want)/2 {
			t.Errorf("Encode(%+v): got %s %d, want %s", x.i, got, e, x.want)
		}
	}
}

func TestEveryRowByItsBits(t *testing.T) {
	for _, r := range table() {
		count := 0
		r.every(func(i api.Ins) {
			taken(t, r, i)
			count++
		})
		if count == 0 {
			t.Errorf("%s: no instruction", r.name)
		}
	}
}

// P2.3

func TestOneForm(t *testing.T) {
	forms := map[string]api.Ins{}
	for _, r := range table() {
		r.every(func(i api.Ins) {
			s, e := Encode(i)
			if e != api.OK {
				t.Fatalf("Encode(%+v): got %d", i, e)
			}
			if other, ok := forms[s]; ok && other != i {
				t.Fatalf("%+v and %+v are both %x", i, other, s)
			}
			forms[s] = i
		})
	}
	for s, i := range forms {
		for k := 1; k < len(s); k++ {
			if other, ok := forms[s[:k]]; ok {
				t.Fatalf("%+v begins as %+v", i, other)
			}
		}
	}
}
