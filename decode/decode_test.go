package decode

import (
	"fmt"
	"slices"
	"strings"
	"testing"

	"hauberk/api"
	"hauberk/thumb"
)

// row is a row of the document's table: its bits as they are written there, the greatest register, and Imm's least and greatest number.
type row struct {
	name      string
	op        int
	wide      bool
	bits      string
	reg       int
	low, high int
}

var rows = []row{
	{"ONop", api.ONop, false, "1011111100000000", 7, 0, 0},
	{"OBkpt", api.OBkpt, false, "10111110HGFEDCBA", 7, 0, 255},
	{"OMovw", api.OMovw, false, "11110L100100PONM0KJIddddHGFEDCBA", 12, 0, 65535},
	{"OMovt", api.OMovt, false, "11110L101100PONM0KJIddddHGFEDCBA", 12, 0, 65535},
	{"OLsl", api.OLsl, false, "11101010010011110EDCddddBA00mmmm", 12, 0, 31},
	{"OLsr", api.OLsr, false, "11101010010011110EDCddddBA01mmmm", 12, 1, 31},
	{"OAsr", api.OAsr, false, "11101010010011110EDCddddBA10mmmm", 12, 1, 31},
	{"ORor", api.ORor, false, "11101010010011110EDCddddBA11mmmm", 12, 1, 31},
	{"OMvn", api.OMvn, false, "11101010011011110000dddd0000mmmm", 12, 0, 0},
	{"OAnd", api.OAnd, false, "111010100000nnnn0000dddd0000mmmm", 12, 0, 0},
	{"OBic", api.OBic, false, "111010100010nnnn0000dddd0000mmmm", 12, 0, 0},
	{"OOrr", api.OOrr, false, "111010100100nnnn0000dddd0000mmmm", 12, 0, 0},
	{"OEor", api.OEor, false, "111010101000nnnn0000dddd0000mmmm", 12, 0, 0},
	{"OAdd", api.OAdd, false, "111010110000nnnn0000dddd0000mmmm", 12, 0, 0},
	{"OSub", api.OSub, false, "111010111010nnnn0000dddd0000mmmm", 12, 0, 0},
	{"OMul", api.OMul, false, "111110110000nnnn1111dddd0000mmmm", 12, 0, 0},
	{"OUmull", api.OUmull, false, "111110111010nnnnddddaaaa0000mmmm", 12, 0, 0},
	{"OBfi", api.OBfi, false, "111100110110nnnn0EDCddddBA0wwwww", 12, 0, 31},
	{"OLdr", api.OLdr, false, "0110100000nnnddd", 7, 0, 0},
	{"OStr", api.OStr, false, "0110000000nnnddd", 7, 0, 0},
	{"OLdrb", api.OLdrb, false, "0111100000nnnddd", 7, 0, 0},
	{"OStrb", api.OStrb, false, "0111000000nnnddd", 7, 0, 0},
	{"OCmp", api.OCmp, false, "0100001010mmmnnn", 7, 0, 0},
	{"OB", api.OB, false, "11100LKJIHGFEDCB", 7, -2048, 2046},
	{"OB wide", api.OB, true, "11110YVUTSRQPONM10x1yLKJIHGFEDCB", 12, -16777216, 16777214},
	{"OBcc", api.OBcc, false, "1101ccccIHGFEDCB", 7, -256, 254},
	{"OBcc wide", api.OBcc, true, "11110UccccRQPONM10S0TLKJIHGFEDCB", 12, -1048576, 1048574},
}

func rowOf(t *testing.T, name string) row {
	t.Helper()
	for _, r := range rows {
		if r.name == name {
			return r
		}
	}
	t.Fatalf("no row %s", name)
	return row{}
}

func (r row) branch() bool { return r.op == api.OB || r.op == api.OBcc }

// spell tells the bytes that the row has with its letters at these bits: those of a lower letter are a number, the greatest bit first, the others are 1 just if they are named in ones.
func (r row) spell(numbers map[byte]int, ones string) string {
	left := map[byte]int{}
	for c, n := range numbers {
		left[c] = n
	}
	bits := make([]byte, len(r.bits))
	for k := len(bits) - 1; k >= 0; k-- {
		switch c := r.bits[k]; {
		case c == '0' || c == '1':
			bits[k] = c - '0'
		case strings.IndexByte("dnmacw", c) >= 0:
			bits[k] = byte(left[c] & 1)
			left[c] >>= 1
		case strings.IndexByte(ones, c) >= 0:
			bits[k] = 1
		}
	}
	return pack(bits)
}

// pack tells bits as bytes: of each 16 the lower eight first.
func pack(bits []byte) string {
	var b []byte
	for k := 0; k < len(bits); k += 16 {
		h := 0
		for _, x := range bits[k : k+16] {
			h = 2*h + int(x)
		}
		b = append(b, byte(h), byte(h>>8))
	}
	return string(b)
}

// unpack tells bytes, two or four, as bits.
func unpack(s string) []byte {
	var bits []byte
	for k := 0; k < len(s); k += 2 {
		for x := 15; x >= 0; x-- {
			bits = append(bits, byte((int(s[k])|int(s[k+1])<<8)>>x&1))
		}
	}
	return bits
}

// halves tells 16 bits, or two times 16, as bytes.
func halves(l ...int) string {
	var b []byte
	for _, h := range l {
		b = append(b, byte(h), byte(h>>8))
	}
	return string(b)
}

// reads tells the instruction that the row reads in bits, letter by letter, and whether there is one.
func (r row) reads(bits []byte) (api.Ins, bool) {
	if len(bits) != len(r.bits) {
		return api.Ins{}, false
	}
	for k := range bits {
		if c := r.bits[k]; (c == '0' || c == '1') && c != '0'+bits[k] {
			return api.Ins{}, false
		}
	}
	var lower [256]int
	for k, b := range bits {
		lower[r.bits[k]] = 2*lower[r.bits[k]] + int(b)
	}
	imm := 0
	for c := 'A'; c <= 'Y'; c++ {
		imm += lower[c] << (c - 'A')
	}
	if r.name == "OB wide" {
		if (lower['x'] == 1) == (lower['Y'] == 1) {
			imm += 1 << 23
		}
		if (lower['y'] == 1) == (lower['Y'] == 1) {
			imm += 1 << 22
		}
	}
	if imm > r.high && r.branch() {
		imm -= r.high + 2 - r.low
	}
	i := api.Ins{Op: r.op, Wide: r.wide, Imm: imm, Rd: lower['d'], Rn: lower['n'], Rm: lower['m'], Ra: lower['a'], Cond: lower['c']}
	if r.op == api.OBfi {
		i.Ra = lower['w'] + 1 - imm
	}
	return i, r.has(i)
}

// has tells whether the fields of an instruction are what the row tells of them.
func (r row) has(i api.Ins) bool {
	if i.Rd > r.reg || i.Rn > r.reg || i.Rm > r.reg || i.Imm < r.low || i.Imm > r.high || i.Cond > 13 {
		return false
	}
	switch r.op {
	case api.OUmull:
		return i.Ra <= r.reg && i.Ra != i.Rd
	case api.OBfi:
		return 1 <= i.Ra && i.Ra <= 32-i.Imm
	}
	return true
}

// sizeOf tells what Size must tell.
func sizeOf(s string) int {
	if len(s) < 2 {
		return 0
	}
	first := fmt.Sprintf("%016b", int(s[0])|int(s[1])<<8)
	for _, p := range []string{"11101", "11110", "11111"} {
		if strings.HasPrefix(first, p) {
			return 4
		}
	}
	return 2
}

// holds holds Size and Decode against the document's rows, and tells whether there is an instruction.
func holds(t *testing.T, s string) bool {
	t.Helper()
	size := sizeOf(s)
	if n := Size(s); n != size {
		t.Fatalf("Size(%x): got %d, want %d", s, n, size)
	}
	var want []api.Ins
	e := api.ErrShort
	if size > 0 && len(s) >= size {
		e = api.ErrUndef
		bits := unpack(s[:size])
		for _, r := range rows {
			if i, ok := r.reads(bits); ok {
				want, e = append(want, i), api.OK
			}
		}
	}
	switch len(want) {
	case 0:
		refused(t, s, e)
		return false
	case 1:
		taken(t, s, want[0], size)
		return true
	}
	t.Fatalf("%x: the rows read several: %+v", s, want)
	return false
}

// refused holds that bytes have an error, and nothing else.
func refused(t *testing.T, s string, want api.Errno) {
	t.Helper()
	if i, n, e := Decode(s); i != (api.Ins{}) || n != 0 || e != want {
		t.Fatalf("Decode(%x): got %+v %d %d, want none 0 %d", s, i, n, e, want)
	}
}

// taken holds that bytes are decoded as an instruction, and that it has just those bytes.
func taken(t *testing.T, s string, want api.Ins, size int) {
	t.Helper()
	i, n, e := Decode(s)
	if i != want || n != size || e != api.OK {
		t.Fatalf("Decode(%x): got %+v %d %d, want %+v %d", s, i, n, e, want, size)
	}
	if back, e := thumb.Encode(i); back != s[:size] || e != api.OK {
		t.Fatalf("%x is decoded as %+v, which is %x (%d)", s, i, back, e)
	}
}

// P3.1

func TestSizeOfEvery16Bits(t *testing.T) {
	four := 0
	for h := range 1 << 16 {
		s := halves(h)
		for _, tail := range []string{"", "\x00", "\xff\xff", "\x00\xbf\x00"} {
			if n := Size(s + tail); n != sizeOf(s) {
				t.Fatalf("Size(%x): got %d, want %d", s+tail, n, sizeOf(s))
			}
		}
		if Size(s) == 4 {
			four++
		}
	}
	if four != 3<<11 {
		t.Errorf("%d beginnings of 32 bits, want %d", four, 3<<11)
	}
	for h, want := range map[int]int{0x0000: 2, 0xe7ff: 2, 0xe000: 2, 0xe800: 4, 0xf000: 4, 0xf800: 4, 0xffff: 4} {
		if n := Size(halves(h)); n != want {
			t.Errorf("Size of %04x: got %d, want %d", h, n, want)
		}
	}
}

func TestNoByteAndOne(t *testing.T) {
	refused(t, "", api.ErrShort)
	if n := Size(""); n != 0 {
		t.Errorf("Size of no byte: got %d, want 0", n)
	}
	for b := range 256 {
		s := string([]byte{byte(b)})
		refused(t, s, api.ErrShort)
		if n := Size(s); n != 0 {
			t.Errorf("Size(%x): got %d, want 0", s, n)
		}
	}
}

func TestCutShort(t *testing.T) {
	for h := 0xe800; h <= 0xffff; h++ {
		refused(t, halves(h), api.ErrShort)
		for _, tail := range []string{"\x00", "\x0d", "\xf0", "\xff"} {
			refused(t, halves(h)+tail, api.ErrShort)
		}
	}
}

func TestEvery16Bits(t *testing.T) {
	count := 0
	for h := range 0xe800 {
		if holds(t, halves(h)) {
			count++
		}
	}
	if want := 1 + 256 + 4*64 + 64 + 2048 + 14*256; count != want {
		t.Errorf("%d instructions of 16 bits, want %d", count, want)
	}
}

func TestWrittenOut(t *testing.T) {
	for s, i := range map[string]api.Ins{
		"\xfe\xe7":         {Op: api.OB, Imm: -4},
		"\x00\xe4":         {Op: api.OB, Imm: -2048},
		"\xff\xe3":         {Op: api.OB, Imm: 2046},
		"\xff\xe7":         {Op: api.OB, Imm: -2},
		"\x00\xe0":         {Op: api.OB},
		"\x00\xbf":         {Op: api.ONop},
		"\xff\xbe":         {Op: api.OBkpt, Imm: 255},
		"\x41\xf2\x34\x21": {Op: api.OMovw, Rd: 1, Imm: 0x1234},
		"\x4f\xf6\xff\x7c": {Op: api.OMovw, Rd: 12, Imm: 65535},
		"\xc0\xf6\x00\x02": {Op: api.OMovt, Rd: 2, Imm: 0x0800},
		"\x4f\xea\x09\x08": {Op: api.OLsl, Rd: 8, Rm: 9},
		"\x4f\xea\xdb\x7c": {Op: api.OLsr, Rd: 12, Rm: 11, Imm: 31},
		"\x4f\xea\x61\x01": {Op: api.OAsr, Rd: 1, Rm: 1, Imm: 1},
		"\x4f\xea\x32\x23": {Op: api.ORor, Rd: 3, Rm: 2, Imm: 8},
		"\x6f\xea\x05\x0a": {Op: api.OMvn, Rd: 10, Rm: 5},
		"\x02\xea\x03\x01": {Op: api.OAnd, Rd: 1, Rn: 2, Rm: 3},
		"\x22\xea\x03\x01": {Op: api.OBic, Rd: 1, Rn: 2, Rm: 3},
		"\x42\xea\x03\x01": {Op: api.OOrr, Rd: 1, Rn: 2, Rm: 3},
		"\x82\xea\x03\x01": {Op: api.OEor, Rd: 1, Rn: 2, Rm: 3},
		"\x02\xeb\x03\x01": {Op: api.OAdd, Rd: 1, Rn: 2, Rm: 3},
		"\xa2\xeb\x03\x01": {Op: api.OSub, Rd: 1, Rn: 2, Rm: 3},
		"\x02\xfb\x03\xf1": {Op: api.OMul, Rd: 1, Rn: 2, Rm: 3},
		"\xa2\xfb\x03\x14": {Op: api.OUmull, Rd: 1, Ra: 4, Rn: 2, Rm: 3},
		"\x62\xf3\x0f\x21": {Op: api.OBfi, Rd: 1, Rn: 2, Imm: 8, Ra: 8},
		"\x6c\xf3\xdf\x7c": {Op: api.OBfi, Rd: 12, Rn: 12, Imm: 31, Ra: 1},
		"\x60\xf3\x1f\x00": {Op: api.OBfi, Ra: 32},
		"\x11\x68":         {Op: api.OLdr, Rd: 1, Rn: 2},
		"\x11\x60":         {Op: api.OStr, Rd: 1, Rn: 2},
		"\x11\x78":         {Op: api.OLdrb, Rd: 1, Rn: 2},
		"\x11\x70":         {Op: api.OStrb, Rd: 1, Rn: 2},
		"\x91\x42":         {Op: api.OCmp, Rn: 1, Rm: 2},
		"\xff\xf3\xff\x97": {Op: api.OB, Wide: true, Imm: 16777214},
		"\x00\xf4\x00\x90": {Op: api.OB, Wide: true, Imm: -16777216},
		"\x00\xf0\x00\xb0": {Op: api.OB, Wide: true, Imm: 1 << 22},
		"\x00\xf0\x00\x98": {Op: api.OB, Wide: true, Imm: 1 << 23},
		"\x00\xf0\x00\xb8": {Op: api.OB, Wide: true},
		"\xff\xf7\xff\xbf": {Op: api.OB, Wide: true, Imm: -2},
		"\x7f\xdd":         {Op: api.OBcc, Cond: 13, Imm: 254},
		"\x80\xd0":         {Op: api.OBcc, Cond: api.EQ, Imm: -256},
		"\xff\xf0\xff\xaf": {Op: api.OBcc, Wide: true, Cond: api.CC, Imm: 1048574},
		"\x80\xf4\x00\x80": {Op: api.OBcc, Wide: true, Cond: api.CS, Imm: -1048576},
		"\x40\xf3\x00\xa0": {Op: api.OBcc, Wide: true, Cond: 13, Imm: 1 << 18},
		"\x40\xf3\x00\x88": {Op: api.OBcc, Wide: true, Cond: 13, Imm: 1 << 19},
	} {
		taken(t, s, i, len(s))
	}
}

// plainLetters tells letters of a row of 32 bits with which there is an instruction, and of which any register but OUmull's Ra and any condition may be changed.
func (r row) plainLetters() (map[byte]int, string) {
	switch r.op {
	case api.OLsr, api.OAsr, api.ORor:
		return map[byte]int{}, "A"
	case api.OUmull:
		return map[byte]int{'a': 11}, ""
	}
	return map[byte]int{}, ""
}

func TestRegistersAtTheirEdges(t *testing.T) {
	for _, r := range rows {
		for _, c := range []byte("dnma") {
			if len(r.bits) != 32 || strings.IndexByte(r.bits, c) < 0 {
				continue
			}
			for n := range 16 {
				numbers, ones := r.plainLetters()
				numbers[c] = n
				s := r.spell(numbers, ones)
				clash := r.op == api.OUmull && numbers['a'] == numbers['d']
				// An OOrr of register 15 is OLsl's row.
				move := r.op == api.OOrr && c == 'n' && n == 15
				if ok := holds(t, s); ok != (n <= 12 && !clash || move) {
					t.Errorf("%s, %c %d: there is one: %v", r.name, c, n, ok)
				}
			}
		}
	}
}

func TestOrrOfRegister15IsLsl(t *testing.T) {
	taken(t, rowOf(t, "OOrr").spell(map[byte]int{'n': 15, 'd': 3, 'm': 4}, ""), api.Ins{Op: api.OLsl, Rd: 3, Rm: 4}, 4)
	refused(t, rowOf(t, "OOrr").spell(map[byte]int{'n': 15, 'd': 13, 'm': 4}, ""), api.ErrUndef)
}

func TestConditions(t *testing.T) {
	for _, name := range []string{"OBcc", "OBcc wide"} {
		r := rowOf(t, name)
		for c := range 16 {
			for _, ones := range []string{"", "B", "LKJIHGFEDCB", "UTSRQPONMLKJIHGFEDCB"} {
				s := r.spell(map[byte]int{'c': c}, ones)
				if c >= 14 {
					refused(t, s, api.ErrUndef)
				} else if i, n, e := Decode(s); i.Op != api.OBcc || i.Wide != r.wide || i.Cond != c || n != len(s) || e != api.OK {
					t.Errorf("%s, condition %d: %+v %d %d", name, c, i, n, e)
				}
			}
		}
	}
}

func TestShiftsAtTheirEdges(t *testing.T) {
	for _, name := range []string{"OLsl", "OLsr", "OAsr", "ORor"} {
		r := rowOf(t, name)
		for n := range 32 {
			ones := ""
			for k, c := range "ABCDE" {
				if n>>k&1 == 1 {
					ones += string(c)
				}
			}
			s := r.spell(map[byte]int{'d': 12, 'm': 5}, ones)
			if n < r.low {
				refused(t, s, api.ErrUndef)
			} else {
				taken(t, s, api.Ins{Op: r.op, Rd: 12, Rm: 5, Imm: n}, 4)
			}
		}
	}
}

func TestWidths(t *testing.T) {
	r := rowOf(t, "OBfi")
	for n := range 32 {
		ones := ""
		for k, c := range "ABCDE" {
			if n>>k&1 == 1 {
				ones += string(c)
			}
		}
		for w := range 32 {
			s := r.spell(map[byte]int{'d': 1, 'n': 2, 'w': w}, ones)
			if w < n {
				refused(t, s, api.ErrUndef)
			} else {
				taken(t, s, api.Ins{Op: api.OBfi, Rd: 1, Rn: 2, Imm: n, Ra: w - n + 1}, 4)
			}
		}
	}
}

func TestEachBitTurned(t *testing.T) {
	for _, r := range rows {
		for _, all := range []string{"", "ABCDEFGHIJKLMNOPQRSTUVYxy"} {
			for _, number := range []int{0, 7} {
				s := r.spell(map[byte]int{'d': number, 'n': number, 'm': number, 'a': 5, 'c': number, 'w': 31}, all)
				if !holds(t, s) && r.low == 0 {
					t.Errorf("%s: %x is none", r.name, s)
				}
				for k := range r.bits {
					bits := unpack(s)
					bits[k] ^= 1
					holds(t, pack(bits))
				}
			}
		}
	}
}

func TestNone(t *testing.T) {
	for name, s := range map[string]string{
		"the document's":       "\xe0\x00",
		"all 0":                "\x00\x00",
		"all 1":                "\xff\xff\xff\xff",
		"behind ONop":          "\x01\xbf",
		"ONop's neighbour":     "\x10\xbf",
		"loads with a number":  "\x51\x68",
		"compares a number":    "\x00\x28",
		"a call":               "\x00\xf0\x00\xf8",
		"OMul that adds":       "\x02\xfb\x03\x41",
		"OAdd with flags":      "\x12\xeb\x03\x01",
		"OAdd with a shift":    "\x02\xeb\x43\x01",
		"OUmull of one":        "\xa2\xfb\x03\x44",
		"OMovw to 13":          "\x41\xf2\x34\x2d",
		"OMvn of 15":           "\x6f\xea\x0f\x0a",
		"OMvn with a register": "\x62\xea\x03\x01",
		"OBfi of 15":           "\x6f\xf3\x0f\x21",
		"OLsr by 0":            "\x4f\xea\x11\x00",
		"OAsr by 0":            "\x4f\xea\x21\x00",
		"ORor by 0":            "\x4f\xea\x31\x00",
		"OBcc 14":              "\x00\xde",
		"OBcc 15":              "\x00\xdf",
		"OBcc 14, wide":        "\x80\xf3\x00\x80",
		"OBcc 15, wide":        "\xc0\xf3\x00\x80",
		"OBfi by -1":           "\x62\xf3\x06\x21",
		"OBfi by 0":            "\x62\xf3\x07\x21",
	} {
		for _, tail := range []string{"", "\x00", "\x00\xbf", "\xff\xff\xff"} {
			if i, n, e := Decode(s + tail); i != (api.Ins{}) || n != 0 || e != api.ErrUndef {
				t.Errorf("%s: %x: got %+v %d %d, want none 0 %d", name, s+tail, i, n, e, api.ErrUndef)
			}
		}
	}
}

func TestEveryBeginningOf32Bits(t *testing.T) {
	for h := 0xe800; h <= 0xffff; h++ {
		for _, l := range []int{0, 0x0001, 0x000d, 0x0010, 0x0020, 0x0101, 0x0c0c, 0x0d00, 0x1234, 0x7cdf, 0x7fff, 0x8000, 0x8801, 0x9000, 0xa7ff, 0xb800, 0xbfff, 0xc000, 0xd000, 0xf000, 0xf10c, 0xf80d, 0xffff} {
			holds(t, halves(h, l))
		}
	}
}

func TestEveryEndOf32Bits(t *testing.T) {
	done := map[string]bool{}
	for _, r := range rows {
		for _, ones := range []string{"", "LMNOPUY"} {
			s := r.spell(map[byte]int{'n': 12, 'c': 13}, ones)
			if len(s) != 4 || done[s[:2]] {
				continue
			}
			done[s[:2]] = true
			count := 0
			for l := range 1 << 16 {
				if holds(t, s[:2]+halves(l)) {
					count++
				}
			}
			if count == 0 {
				t.Errorf("%s: none begins with %x", r.name, s[:2])
			}
		}
	}
}

// P3.2

// several tells instructions, among them one of each row, whose bytes are told by thumb, and where each of them ends.
func several(t *testing.T) ([]api.Ins, string, []int) {
	t.Helper()
	var l []api.Ins
	for _, r := range rows {
		for _, i := range []api.Ins{{Op: r.op, Wide: r.wide, Imm: r.low}, {Op: r.op, Wide: r.wide, Imm: r.high}} {
			if r.op == api.OUmull || r.op == api.OBfi {
				i.Ra = 1
			}
			l = append(l, i)
		}
	}
	all, ends := "", []int{0}
	for _, i := range l {
		s, e := thumb.Encode(i)
		if e != api.OK {
			t.Fatalf("Encode(%+v): %d", i, e)
		}
		all += s
		ends = append(ends, len(all))
	}
	return l, all, ends
}

// allAre holds that bytes are these instructions.
func allAre(t *testing.T, s string, want []api.Ins) {
	t.Helper()
	if l, e := All(s); !slices.Equal(l, want) || e != api.OK {
		t.Fatalf("All(%x): got %+v %d, want %+v", s, l, e, want)
	}
}

// allRefuses holds that bytes have an error, and nothing else.
func allRefuses(t *testing.T, s string, want api.Errno) {
	t.Helper()
	if l, e := All(s); len(l) != 0 || e != want {
		t.Fatalf("All(%x): got %+v %d, want none %d", s, l, e, want)
	}
}

func TestAllOfNoByte(t *testing.T) { allAre(t, "", nil) }

func TestAllCutAnywhere(t *testing.T) {
	l, s, ends := several(t)
	for k := 0; k <= len(s); k++ {
		if n := slices.Index(ends, k); n >= 0 {
			allAre(t, s[:k], l[:n])
		} else {
			allRefuses(t, s[:k], api.ErrShort)
		}
	}
}

func TestAllFromAnyOnwards(t *testing.T) {
	l, s, ends := several(t)
	for n := range l {
		allAre(t, s[ends[n]:], l[n:])
		allAre(t, s[ends[n]:ends[n+1]], l[n:n+1])
	}
}

func TestAllWithNoneBehind(t *testing.T) {
	l, s, ends := several(t)
	for n := range len(l) + 1 {
		for _, none := range []string{"\x00\x00", "\xe0\x00", "\x00\xde", "\xff\xff\xff\xff", "\x4f\xea\x11\x00"} {
			allRefuses(t, s[:ends[n]]+none, api.ErrUndef)
			allRefuses(t, s[:ends[n]]+none+s[ends[n]:], api.ErrUndef)
		}
	}
}

func TestAllTellsTheFirstError(t *testing.T) {
	allRefuses(t, "\xfe\xe7\x00\x00\xfe", api.ErrUndef)
	allRefuses(t, "\xfe\xe7\x00\x00\xff\xff", api.ErrUndef)
	allRefuses(t, "\xfe\xe7\xfe", api.ErrShort)
	allRefuses(t, "\xfe\xe7\x41\xf2\x34", api.ErrShort)
	allRefuses(t, "\xfe", api.ErrShort)
	allRefuses(t, "\xfe\xe7\xff\xff", api.ErrShort)
}

func TestAllDoesNotLookInside(t *testing.T) {
	// The second 16 bits are ones that begin an instruction by themselves.
	want := []api.Ins{{Op: api.OMul, Rd: 1, Rn: 2, Rm: 3}, {Op: api.ONop}}
	allAre(t, "\x02\xfb\x03\xf1\x00\xbf", want)
	allAre(t, "\x00\xbf\x02\xfb\x03\xf1", []api.Ins{want[1], want[0]})
}

func TestAllOfMany(t *testing.T) {
	const many = 1 << 17
	s := strings.Repeat("\xfe\xe7\x41\xf2\x34\x21", many)
	l, e := All(s)
	if len(l) != 2*many || e != api.OK || l[2*many-1].Op != api.OMovw || l[2*many-2].Op != api.OB {
		t.Errorf("got %d %d, want %d", len(l), e, 2*many)
	}
}

func TestAllIsNewMemory(t *testing.T) {
	l, s, _ := several(t)
	a, _ := All(s)
	b, _ := All(s)
	clear(a)
	if !slices.Equal(b, l) {
		t.Errorf("got %+v, want %+v", b, l)
	}
	allAre(t, s, l)
}

func TestEachMayBeLeftEarly(t *testing.T) {
	_, s, _ := several(t)
	for range 2 {
		count := 0
		for i, e := range each(s) {
			if e != api.OK || count == 0 && i.Op != api.ONop {
				t.Fatalf("got %+v %d", i, e)
			}
			if count++; count == 3 {
				break
			}
		}
		if count != 3 {
			t.Errorf("got %d, want 3", count)
		}
	}
}

// P3.3

// numbers tells numbers that Imm may be in a row: both edges, those about powers of two, and some between.
func (r row) numbers() []int {
	l := []int{r.low, r.high}
	add := func(n int) {
		if r.low <= n && n <= r.high && (!r.branch() || n%2 == 0) {
			l = append(l, n)
		}
	}
	for k := range 25 {
		for d := -2; d <= 2; d++ {
			add(1<<k + d)
			add(-1<<k + d)
		}
	}
	step := (r.high-r.low)/300 | 1
	for n := r.low; n <= r.high; n += step {
		add(n)
	}
	return l
}

// upTo tells the numbers of a field, if the row tells it, else 0 alone.
func (r row) upTo(letter string, most int) []int {
	l := []int{0}
	for n := 1; strings.Contains(r.bits, letter) && n <= most; n++ {
		l = append(l, n)
	}
	return l
}

// every goes through instructions of the row: all registers, conditions and widths with Imm's numbers.
func (r row) every(f func(i api.Ins)) {
	imms := r.numbers()
	for _, d := range r.upTo("d", r.reg) {
		for _, n := range r.upTo("n", r.reg) {
			for _, m := range r.upTo("m", r.reg) {
				for _, c := range r.upTo("c", 13) {
					for _, k := range imms {
						r.everyRa(api.Ins{Op: r.op, Rd: d, Rn: n, Rm: m, Imm: k, Cond: c, Wide: r.wide}, f)
					}
				}
			}
		}
	}
}

func (r row) everyRa(i api.Ins, f func(i api.Ins)) {
	switch r.op {
	case api.OBfi:
		for _, i.Ra = range []int{1, (33 - i.Imm) / 2, 32 - i.Imm} {
			if i.Ra >= 1 {
				f(i)
			}
		}
	case api.OUmull:
		for i.Ra = 0; i.Ra <= r.reg; i.Ra++ {
			if i.Ra != i.Rd {
				f(i)
			}
		}
	default:
		f(i)
	}
}

func TestBackFromInstructions(t *testing.T) {
	for _, r := range rows {
		count := 0
		r.every(func(i api.Ins) {
			s, e := thumb.Encode(i)
			if e != api.OK {
				t.Fatalf("%s: Encode(%+v): %d", r.name, i, e)
			}
			if Size(s) != len(s) || thumb.Size(i) != len(s) {
				t.Fatalf("%s: Size(%x): got %d, want %d", r.name, s, Size(s), len(s))
			}
			tail := []string{"", "\x00", "\xff\xff", "\x00\xbf", "\x41\xf2\x34", "xyz"}[count%6]
			taken(t, s+tail, i, len(s))
			count++
		})
		if count == 0 {
			t.Errorf("%s: no instruction", r.name)
		}
	}
}

func TestTailsDoNotMatter(t *testing.T) {
	l, s, ends := several(t)
	for n, i := range l {
		one := s[ends[n]:ends[n+1]]
		for b := range 256 {
			taken(t, one+string([]byte{byte(b)}), i, len(one))
			taken(t, one+string([]byte{byte(b), 0xf2, byte(b)}), i, len(one))
		}
		taken(t, one+s, i, len(one))
	}
}

func TestAllBackFromBytes(t *testing.T) {
	l, s, _ := several(t)
	back := ""
	for _, i := range l {
		b, _ := thumb.Encode(i)
		back += b
	}
	if got, e := All(back); back != s || !slices.Equal(got, l) || e != api.OK {
		t.Errorf("got %x, want %x", back, s)
	}
}
