package eval

import (
	"math/bits"
	"reflect"
	"strconv"
	"strings"
	"testing"

	"hauberk/api"
	"hauberk/syntax"
	"hauberk/types"
)

// parsed tells the program of a text.
func parsed(t *testing.T, text string) api.Program {
	t.Helper()
	p, bad := syntax.Parse(text)
	if bad.Err != api.OK {
		t.Fatalf("%s: not parsed: %v", text, bad)
	}
	return p
}

// packed tells words as bytes.
func packed(l ...uint32) string {
	var b []byte
	for _, x := range l {
		b = append(b, byte(x), byte(x>>8), byte(x>>16), byte(x>>24))
	}
	return string(b)
}

// short tells a text with no more letters than can be read.
func short(s string) string { return s[:min(len(s), 1500)] }

// told fails, if Eval does not tell that of a program and an input, or the words that are spelled a second time do not.
func told(t *testing.T, what string, p api.Program, input, want string, err api.Errno) {
	t.Helper()
	if out, e := Eval(p, input); out != want || e != err {
		t.Errorf("%s\nof %x: %x, error %d; wanted %x, error %d", short(what), short(input), short(out), e, short(want), err)
	}
	if out, e := spelled(p, input); out != want || e != err {
		t.Errorf("%s\nof %x: spelled as %x, error %d; wanted %x, error %d", short(what), short(input), short(out), e, short(want), err)
	}
}

// makes fails, if a text does not make that output of an input.
func makes(t *testing.T, text, input, want string) {
	t.Helper()
	told(t, text, parsed(t, text), input, want, api.OK)
}

// traps fails, if a text does not trap of an input.
func traps(t *testing.T, text, input string) {
	t.Helper()
	told(t, text, parsed(t, text), input, "", api.ErrTrap)
}

// refuses fails, if a text does not tell that error of an input.
func refuses(t *testing.T, text, input string, err api.Errno) {
	t.Helper()
	told(t, text, parsed(t, text), input, "", err)
}

// The chapter's example.

func TestExample(t *testing.T) {
	const text = "fn main(pub n: u32, out pub o: u8[1]) { o[n] = n - 1; }"
	makes(t, text, "\x00\x00\x00\x00", "\xff\x00\x00\x00")
	traps(t, text, "\x01\x00\x00\x00")
}

// The document's own examples of the whole, as far as they tell what a text means.

func TestExamplesOfTheWhole(t *testing.T) {
	makes(t, "fn main(sec a: u32, out sec o: u32[1]) { o[0] = a + 1; }", "\x29\x00\x00\x00", "\x2a\x00\x00\x00")
	traps(t, "fn main(pub n: u32, out pub o: u8[1]) { o[n] = 1; }", "\x01\x00\x00\x00")
	for n := range uint32(12) {
		const text = "fn main(pub n: u32, out pub o: u32[1]) { for i < n max 8 { o[0] = i; } }"
		switch {
		case n > 8:
			traps(t, text, packed(n))
		case n == 0:
			makes(t, text, packed(n), packed(0))
		default:
			makes(t, text, packed(n), packed(n-1))
		}
	}
}

// P16.1: expressions by themselves.

// edges are words at their bounds, and some between.
var edges = []uint32{0, 1, 2, 3, 31, 32, 255, 256, 0xffff, 0x10000, 0x12345678, 0x7fffffff, 0x80000000, 0x80000001, 0xfffffffe, 0xffffffff}

// number tells a word in a text.
func number(n uint32) string { return strconv.FormatUint(uint64(n), 10) }

// mask tells a truth as a word.
func mask(yes bool) uint32 {
	if yes {
		return 0xffffffff
	}
	return 0
}

// ofOne are expressions of a, and what they make of it.
var ofOne = []struct {
	text string
	of   func(a uint32) uint32
}{
	{"a", func(a uint32) uint32 { return a }},
	{"(a)", func(a uint32) uint32 { return a }},
	{"~a", func(a uint32) uint32 { return ^a }},
	{"-a", func(a uint32) uint32 { return -a }},
	{"~~a", func(a uint32) uint32 { return a }},
	{"-~a", func(a uint32) uint32 { return a + 1 }},
	{"~-a", func(a uint32) uint32 { return a - 1 }},
	{"word(a == 0)", func(a uint32) uint32 { return mask(a == 0) }},
	{"word(!(a == 0))", func(a uint32) uint32 { return mask(a != 0) }},
	{"word(!!(a == 0))", func(a uint32) uint32 { return mask(a == 0) }},
	{"a + 1", func(a uint32) uint32 { return a + 1 }},
	{"0 - a", func(a uint32) uint32 { return -a }},
	{"word(a == a)", func(a uint32) uint32 { return mask(true) }},
	{"select(a == 1, a, ~a)", func(a uint32) uint32 { return []uint32{^a, a}[mask(a == 1)&1] }},
}

// numerals tells an expression in which a name's places are a number's.
func numerals(text, name string, n uint32) string {
	// A name stands by itself: no letter of a word is taken for it.
	var s strings.Builder
	for k := range len(text) {
		alone := (k == 0 || !letter(text[k-1])) && (k == len(text)-1 || !letter(text[k+1]))
		if text[k:k+1] == name && alone {
			s.WriteString(number(n))
		} else {
			s.WriteByte(text[k])
		}
	}
	return s.String()
}

// letter tells whether a byte is a letter.
func letter(b byte) bool { return 'a' <= b && b <= 'z' }

func TestOfOne(t *testing.T) {
	for _, x := range ofOne {
		p := parsed(t, "fn main(sec a: u32, out sec o: u32[1]) { o[0] = "+x.text+"; }")
		for _, a := range edges {
			told(t, x.text, p, packed(a), packed(x.of(a)), api.OK)
			makes(t, "fn main(out sec o: u32[1]) { o[0] = "+numerals(x.text, "a", a)+"; }", "", packed(x.of(a)))
		}
	}
}

func TestNumbers(t *testing.T) {
	for _, a := range edges {
		makes(t, "fn main(out pub o: u32[1]) { o[0] = "+number(a)+"; }", "", packed(a))
		makes(t, "fn main(out pub o: u32[1]) { o[0] = 0x"+strconv.FormatUint(uint64(a), 16)+"; }", "", packed(a))
	}
}

// ofTwo are expressions of a and b, and what they make of them.
var ofTwo = []struct {
	text string
	of   func(a, b uint32) uint32
}{
	{"a + b", func(a, b uint32) uint32 { return a + b }},
	{"a - b", func(a, b uint32) uint32 { return a - b }},
	{"a * b", func(a, b uint32) uint32 { return a * b }},
	{"a & b", func(a, b uint32) uint32 { return a & b }},
	{"a | b", func(a, b uint32) uint32 { return a | b }},
	{"a ^ b", func(a, b uint32) uint32 { return a ^ b }},
	{"mulhi(a, b)", func(a, b uint32) uint32 { high, _ := bits.Mul32(a, b); return high }},
	{"carry(a, b)", func(a, b uint32) uint32 { _, carry := bits.Add32(a, b, 0); return carry }},
	{"word(a == b)", func(a, b uint32) uint32 { return mask(a == b) }},
	{"word(a != b)", func(a, b uint32) uint32 { return mask(a != b) }},
	{"word(a < b)", func(a, b uint32) uint32 { return mask(a < b) }},
	{"word(a <= b)", func(a, b uint32) uint32 { return mask(a <= b) }},
	{"word(a > b)", func(a, b uint32) uint32 { return mask(a > b) }},
	{"word(a >= b)", func(a, b uint32) uint32 { return mask(a >= b) }},
	{"word((a == 0) & (b == 0))", func(a, b uint32) uint32 { return mask(a == 0 && b == 0) }},
	{"word((a == 0) | (b == 0))", func(a, b uint32) uint32 { return mask(a == 0 || b == 0) }},
	{"word((a == 0) ^ (b == 0))", func(a, b uint32) uint32 { return mask(a == 0 != (b == 0)) }},
	{"word(a < b) & a | word(a >= b) & b", func(a, b uint32) uint32 { return min(a, b) }},
	{"select(a < b, a, b)", func(a, b uint32) uint32 { return min(a, b) }},
	{"select(!(a < b), a, b)", func(a, b uint32) uint32 { return max(a, b) }},
	{"word(select(a < b, a == 0, b == 0))", func(a, b uint32) uint32 { return mask(min(a, b) == 0) }},
}

func TestOfTwo(t *testing.T) {
	for _, x := range ofTwo {
		p := parsed(t, "fn main(sec a: u32, sec b: u32, out sec o: u32[1]) { o[0] = "+x.text+"; }")
		for _, a := range edges {
			for _, b := range edges {
				told(t, x.text, p, packed(a, b), packed(x.of(a, b)), api.OK)
			}
			y := numerals(numerals(x.text, "a", a), "b", 0x80000000)
			makes(t, "fn main(out sec o: u32[1]) { o[0] = "+y+"; }", "", packed(x.of(a, 0x80000000)))
		}
	}
}

func TestBits(t *testing.T) {
	for n := range 32 {
		text := "fn main(sec a: u32, out sec o: u32[3]) { o[0] = a << @; o[1] = a >> @; o[2] = ror(a, @); }"
		p := parsed(t, strings.ReplaceAll(text, "@", strconv.Itoa(n)))
		for _, a := range append(edges, 0xdeadbeef, 0xf0f0f0f1) {
			told(t, text, p, packed(a), packed(a<<n, a>>n, bits.RotateLeft32(a, -n)), api.OK)
		}
	}
	makes(t, "fn main(out pub o: u32[9]) { o[0] = 1 << 0; o[1] = 1 << 1; o[2] = 1 << 31; o[3] = 3 >> 0; o[4] = 3 >> 1; o[5] = 4294967295 >> 31; o[6] = ror(3, 0); o[7] = ror(3, 1); o[8] = ror(3, 31); }", "",
		packed(1, 2, 0x80000000, 3, 1, 1, 3, 0x80000001, 6))
}

func TestMasks(t *testing.T) {
	const text = `
fn both(sec m: mask, sec n: mask): sec mask { return m & n; }
fn main(sec a: u32, sec b: u32, out sec o: u32[8]) {
 let m = a == 1; let n = b == 1; var sec k: mask;
 o[0] = word(k); o[1] = word(m); o[2] = word(!n); k = m ^ n; o[3] = word(k);
 o[4] = word(both(m, n)); o[5] = word(select(m, n, !n)); o[6] = select(both(k, m), 5, 6); k = !k; o[7] = word(k);
}`
	p := parsed(t, text)
	for a := range uint32(2) {
		for b := range uint32(2) {
			m, n := a == 1, b == 1
			last := uint32(6)
			if m && !n {
				last = 5
			}
			told(t, text, p, packed(a, b), packed(0, mask(m), mask(!n), mask(m != n), mask(m && n), mask(m == n), last, mask(m == n)), api.OK)
		}
	}
}

func TestSelect(t *testing.T) {
	p := parsed(t, "fn main(sec k: u32, sec a: u32, sec b: u32, out sec o: u32[1]) { o[0] = select(k == 1, a, b); }")
	for _, a := range edges {
		for _, b := range edges {
			told(t, "select", p, packed(1, a, b), packed(a), api.OK)
			told(t, "select", p, packed(0, a, b), packed(b), api.OK)
		}
	}
}

// What is known by names.

func TestNames(t *testing.T) {
	makes(t, `fn main(pub n: u32, out pub o: u32[8]) {
 let a = n + 1; var pub b: u32; o[0] = n; o[1] = a; o[2] = b;
 b = a * 2; o[3] = b; b = b + n; o[4] = b; let c = b; b = 0; o[5] = c; o[6] = b;
 for i < 3 max 3 { b = b + i; } o[7] = b;
}`, packed(10), packed(10, 11, 0, 22, 32, 32, 0, 3))
}

func TestALetKeepsItsValue(t *testing.T) {
	makes(t, "fn main(out pub o: u32[3]) { o[0] = 7; let a = o[0]; o[0] = 8; o[1] = a; o[2] = o[0]; }", "", packed(8, 7, 8))
	makes(t, "fn main(out pub o: u32[2]) { var pub v: u32; v = 3; let a = v; v = 4; o[0] = a; o[1] = v; }", "", packed(3, 4))
}

func TestNamesOfBlocksApart(t *testing.T) {
	makes(t, `fn main(out pub o: u32[6]) {
 if 1 == 1 { let x = 5; o[0] = x; }
 if 1 == 1 { var pub x: u8[3]; x[2] = 7; o[1] = x[2] + x[0]; }
 for x < 2 max 2 { o[2] = o[2] + x + 1; }
 if 1 == 2 { } else { var pub x: mask; o[3] = word(!x); }
 for y < 2 max 2 { let x = y * 8; o[4] = o[4] + x; }
 let x = 9; o[5] = x;
}`, "", packed(5, 7, 3, 0xffffffff, 8, 9))
}

func TestANameOfAFunctionAndOfAValue(t *testing.T) {
	makes(t, "fn f(pub f: u32): pub u32 { return f + 1; } fn main(pub main: u32, out pub o: u32[2]) { let f = f(main); o[0] = f; o[1] = f(f); }", packed(4), packed(5, 6))
}

// Elements.

// arrays are ways to have an array l of @ elements that is written and read: what is declared ahead of it and in it.
var arrays = []struct{ what, params, made string }{
	{"made", "", "var pub l: u32[@];"},
	{"made of bytes", "", "var pub l: u8[@];"},
	{"going out", "out pub l: u32[@], ", ""},
	{"of bytes, going out", "out pub l: u8[@], ", ""},
}

// lengths are how many elements arrays have.
var lengths = []int{1, 2, 3, 4, 5, 7, 8, 255, 256, 257, 1000}

// beyond tells indices that are not less than a length.
func beyond(n int) []uint32 {
	return []uint32{uint32(n), uint32(n) + 1, uint32(2*n) + 1, uint32(n) + 256, uint32(n) + 0x10000, 0x7fffffff, 0x80000000, 0x80000000 + uint32(n), -uint32(n) - 1, -uint32(n), 0xfffffffe, 0xffffffff}
}

// withLength tells a text with a length in it.
func withLength(text string, n int) string { return strings.ReplaceAll(text, "@", strconv.Itoa(n)) }

// outOf tells the bytes of an array of so many elements that goes out, of which one was stored.
func outOf(octets bool, n, k int, value uint32) string {
	if !octets {
		l := make([]uint32, n)
		l[k] = value
		return packed(l...)
	}
	b := make([]byte, (n+3)/4*4)
	b[k] = byte(value)
	return string(b)
}

func TestIndicesOfReads(t *testing.T) {
	for _, x := range append(arrays,
		struct{ what, params, made string }{"handed in", "sec l: u32[@], ", ""},
		struct{ what, params, made string }{"of bytes, handed in", "sec l: u8[@], ", ""},
	) {
		in, out := strings.HasPrefix(x.params, "sec"), strings.HasPrefix(x.params, "out")
		octets := strings.Contains(x.params+x.made, "u8")
		for _, n := range lengths {
			text := withLength("fn main("+x.params+"pub k: u32, out sec o: u32[1]) { "+x.made+" o[0] = l[k]; }", n)
			p := parsed(t, text)
			for k := range n {
				if k > 8 && k < n-3 {
					continue
				}
				lead, behind := "", ""
				value := uint32(0)
				if in {
					value = 0xa0b0c0d0
					lead = outOf(octets, n, k, value)
				}
				if out {
					behind = outOf(octets, n, k, 0)
				}
				if octets {
					value %= 256
				}
				told(t, text, p, lead+packed(uint32(k)), behind+packed(value), api.OK)
			}
			for _, k := range beyond(n) {
				lead := ""
				if in {
					lead = outOf(octets, n, 0, 0)
				}
				told(t, text, p, lead+packed(k), "", api.ErrTrap)
			}
		}
	}
}

func TestIndicesOfStores(t *testing.T) {
	for _, x := range arrays {
		octets := strings.Contains(x.params+x.made, "u8")
		for _, n := range lengths {
			// What is stored is read again, element by element.
			again := ""
			if x.made != "" {
				again = "for i < @ max @ { o[i] = l[i]; }"
			}
			text := withLength("fn main("+x.params+"pub k: u32, out pub o: u32[@]) { "+x.made+" l[k] = 0x81828384; "+again+" }", n)
			p := parsed(t, text)
			for k := range n {
				if k > 8 && k < n-3 {
					continue
				}
				want := outOf(octets, n, k, 0x81828384) + outOf(false, n, 0, 0)
				if again != "" {
					value := uint32(0x81828384)
					if octets {
						value = 0x84
					}
					want = outOf(false, n, k, value)
				}
				told(t, text, p, packed(uint32(k)), want, api.OK)
			}
			for _, k := range beyond(n) {
				told(t, text, p, packed(k), "", api.ErrTrap)
			}
		}
	}
}

func TestTheLongestArrays(t *testing.T) {
	for _, elem := range []string{"u32", "u8"} {
		text := "fn main(sec l: " + elem + "[16384], pub k: u32, out sec o: " + elem + "[16384]) { var sec m: " + elem + "[16384]; m[k] = l[k]; o[k] = m[k]; }"
		if elem == "u32" {
			// All of the input's bytes are l's.
			text = strings.Replace(text, ", pub k: u32, ", ", ", 1)
			text = strings.Replace(text, "{", "{ let k = 16383;", 1)
			p := parsed(t, text)
			s := outOf(false, 16384, 16383, 0xfedcba98)
			told(t, text, p, s, s, api.OK)
			traps(t, strings.Replace(text, "16383;", "16384;", 1), s)
			continue
		}
		p := parsed(t, text)
		for _, k := range []int{0, 1, 8191, 16382, 16383} {
			s := outOf(true, 16384, k, 0x98)
			told(t, text, p, s+packed(uint32(k)), s, api.OK)
		}
		for _, k := range beyond(16384) {
			told(t, text, p, outOf(true, 16384, 0, 0)+packed(k), "", api.ErrTrap)
		}
	}
}

func TestBytesKeepTheLowest(t *testing.T) {
	const text = "fn main(sec a: u32, out sec o: u8[3], out sec w: u32[3]) { var sec l: u8[2]; l[1] = a; w[0] = l[1]; o[1] = a; w[1] = o[1]; w[2] = l[0] + o[0] + o[2]; }"
	p := parsed(t, text)
	for _, a := range append(edges, 127, 128, 129, 254, 257, 511, 512, 0xff00, 0xffffff00, 0xffffff80) {
		b := a & 255
		told(t, text, p, packed(a), packed(b<<8, b, b, 0), api.OK)
	}
	// The value of what was stored is not the element's.
	makes(t, "fn f(out pub l: u8[1], pub v: u32): pub u32 { l[0] = v; return v; } fn main(out pub o: u8[1], out pub w: u32[2]) { w[0] = f(o, 0x1ff); w[1] = o[0]; }", "", packed(255, 511, 255))
}

func TestElementsHandedIn(t *testing.T) {
	const text = "fn main(sec w: u32[3], sec n: u32, sec b: u8[5], out sec o: u32[9]) { o[0] = w[0]; o[1] = w[1]; o[2] = w[2]; o[3] = n; o[4] = b[0]; o[5] = b[1]; o[6] = b[2]; o[7] = b[3]; o[8] = b[4]; }"
	makes(t, text, packed(0x04030201, 0x08070605, 0xffeeddcc, 0x80000001)+"\x01\x02\x80\xfe\xff\x00\x00\x00",
		packed(0x04030201, 0x08070605, 0xffeeddcc, 0x80000001, 1, 2, 0x80, 0xfe, 0xff))
}

// What is done first.

// acts are functions that can be told by what they leave in an array: put stores, mark writes a digit behind those that are there, next counts.
const acts = `
fn put(out pub l: u32[4], pub k: u32, pub v: u32): pub u32 { l[k] = v; return v; }
fn mark(out pub l: u32[4], pub v: u32): pub u32 { l[0] = l[0] * 10 + v; return v; }
fn next(out pub l: u32[4]): pub u32 { l[0] = l[0] + 1; return l[0]; }
fn three(pub a: u32, pub b: u32, pub c: u32): pub u32 { return a * 100 + b * 10 + c; }
fn masked(pub m: mask, pub a: u32, pub n: mask): pub u32 { return select(m | n, a, 0); }
`

func TestFromTheLeft(t *testing.T) {
	for _, x := range []struct {
		body string
		want []uint32
	}{
		{"o[1] = next(o) - next(o);", []uint32{2, 0xffffffff, 0, 0}},
		{"o[1] = o[0] + put(o, 0, 5);", []uint32{5, 5, 0, 0}},
		{"o[1] = put(o, 0, 5) + o[0];", []uint32{5, 10, 0, 0}},
		{"o[1] = mark(o, 1) + mark(o, 2) * mark(o, 3);", []uint32{123, 7, 0, 0}},
		{"o[1] = (mark(o, 1) + mark(o, 2)) * mark(o, 3);", []uint32{123, 9, 0, 0}},
		{"o[1] = mark(o, 1) * (mark(o, 2) + mark(o, 3));", []uint32{123, 5, 0, 0}},
		{"o[1] = mark(o, 1) - (mark(o, 2) - mark(o, 3));", []uint32{123, 2, 0, 0}},
		{"o[1] = ~mark(o, 1) + -mark(o, 2) + (mark(o, 3) << 1) + ror(mark(o, 4), 1);", []uint32{1234, 4, 0, 0}},
		{"o[1] = three(mark(o, 1), mark(o, 2), mark(o, 3));", []uint32{123, 123, 0, 0}},
		{"o[1] = three(mark(o, 3), mark(o, 1), mark(o, 2));", []uint32{312, 312, 0, 0}},
		{"o[1] = three(o[0], mark(o, 2), o[0]);", []uint32{2, 22, 0, 0}},
		{"o[1] = three(next(o), three(next(o), next(o), next(o)), next(o));", []uint32{5, 100 + 2340 + 5, 0, 0}},
		{"o[1] = masked(mark(o, 1) == 2, mark(o, 2), mark(o, 3) == 3);", []uint32{123, 2, 0, 0}},
		{"o[1] = select(mark(o, 1) == 1, mark(o, 2), mark(o, 3));", []uint32{123, 2, 0, 0}},
		{"o[1] = select(mark(o, 1) != 1, mark(o, 2), mark(o, 3));", []uint32{123, 3, 0, 0}},
		{"o[1] = select(o[0] == 0, put(o, 0, 5), o[0]);", []uint32{5, 5, 0, 0}},
		{"o[1] = select(o[0] != 0, put(o, 0, 5), o[0]);", []uint32{5, 5, 0, 0}},
		{"o[1] = select(put(o, 0, 5) == 0, 1, o[0]);", []uint32{5, 5, 0, 0}},
		{"o[1] = word(mark(o, 1) == mark(o, 2)) + word((mark(o, 3) == 3) & (mark(o, 4) == 4));", []uint32{1234, 0xffffffff, 0, 0}},
		{"o[1] = word((mark(o, 1) == 0) & (mark(o, 2) == 2));", []uint32{12, 0, 0, 0}},
		{"o[1] = word((mark(o, 1) == 1) | (mark(o, 2) == 0));", []uint32{12, 0xffffffff, 0, 0}},
		// The index ahead of the element, the index ahead of the value, the value ahead of what is stored.
		{"o[2] = 7; o[1] = o[put(o, 2, 2)];", []uint32{0, 2, 2, 0}},
		{"o[2] = 7; o[1] = o[2] + o[put(o, 2, 2)];", []uint32{0, 9, 2, 0}},
		{"o[2] = 7; o[1] = o[put(o, 2, 2)] + o[2];", []uint32{0, 4, 2, 0}},
		{"o[o[0]] = put(o, 0, 3);", []uint32{3, 0, 0, 0}},
		{"o[0] = 1; o[o[0]] = put(o, 0, 3);", []uint32{3, 3, 0, 0}},
		{"o[next(o)] = next(o);", []uint32{2, 2, 0, 0}},
		{"o[next(o) + next(o)] = next(o) * 10 + next(o);", []uint32{4, 0, 0, 34}},
		{"o[put(o, 1, 2)] = o[1] + 5;", []uint32{0, 2, 7, 0}},
		{"o[0] = put(o, 0, 5) + 1;", []uint32{6, 0, 0, 0}},
		{"o[0] = o[0] + put(o, 0, 5);", []uint32{5, 0, 0, 0}},
		{"o[put(o, 0, 0)] = put(o, 0, 9) + o[0];", []uint32{18, 0, 0, 0}},
		{"o[o[o[0] + 1] + 2] = 9; o[1] = 3; o[o[o[0] + 1]] = o[o[1] - 1];", []uint32{0, 3, 9, 9}},
		// Statements in order, each once.
		{"let a = next(o); let b = next(o); o[1] = a; o[2] = b;", []uint32{2, 1, 2, 0}},
		{"var pub a: u32; a = next(o); o[1] = a + next(o); a = next(o); o[2] = a;", []uint32{3, 3, 3, 0}},
		{"if next(o) == 1 { o[1] = next(o); } else { o[2] = next(o); }", []uint32{2, 2, 0, 0}},
		{"if next(o) == 2 { o[1] = next(o); } else { o[2] = next(o); }", []uint32{2, 0, 2, 0}},
		{"for i < next(o) + 2 max 9 { o[1] = o[1] + next(o); }", []uint32{4, 9, 0, 0}},
		{"put(o, next(o), next(o)); put(o, next(o), next(o) * 10);", []uint32{4, 2, 0, 40}},
	} {
		makes(t, acts+"fn main(out pub o: u32[4]) { "+x.body+" }", "", packed(x.want...))
	}
}

func TestFromTheLeftInEachKind(t *testing.T) {
	// Of these a and b stand in the text once each.
	for k, x := range ofTwo[:14] {
		with := func(a, b string) string {
			text := strings.NewReplacer("a ", "A ", "(a", "(A", " b", " B").Replace(x.text)
			return strings.NewReplacer("A", a, "B", b).Replace(text)
		}
		const head = acts + "fn main(out pub o: u32[4]) { o[0] = 7; o[1] = "
		makes(t, head+with("mark(o, 1)", "mark(o, 2)")+"; }", "", packed(712, x.of(1, 2), 0, 0))
		makes(t, head+with("mark(o, 2)", "mark(o, 1)")+"; }", "", packed(721, x.of(2, 1), 0, 0))
		makes(t, head+with("o[0]", "mark(o, 2)")+"; }", "", packed(72, x.of(7, 2), 0, 0))
		makes(t, head+with("mark(o, 2)", "o[0]")+"; }", "", packed(72, x.of(2, 72), 0, 0))
		if k >= 8 {
			x.text = strings.TrimSuffix(strings.TrimPrefix(x.text, "word("), ")")
			const branch = acts + "fn main(out pub o: u32[4]) { if "
			want := []uint32{0, 5}[x.of(1, 2)&1]
			makes(t, branch+with("mark(o, 1)", "mark(o, 2)")+" { o[1] = 5; } }", "", packed(12, want, 0, 0))
		}
	}
}

// places are texts in which @ is done once; the array a has two elements, n is 1 or 2.
var places = []string{
	"let x = @;", "v = @;", "o[0] = @;", "o[@] = 1;", "o[@ & 1] = a[0];", "o[a[0]] = @;", "take(@);", "take2(1, @);", "take2(@, 1);", "v = give(@);",
	"if @ == 0 { }", "if @ == 0 { } else { }", "for i < @ max 9 { }", "for i < 1 max 1 { v = @; }", "for i < n max 2 { v = @; }", "for i < 2 max 2 { for j < 2 max 2 { v = @; } }",
	"if n != 9 { v = @; }", "if n == 9 { } else { v = @; }", "if n != 9 { } v = @;",
	"v = @ + 1;", "v = 1 + @;", "v = @ - 1;", "v = 1 - @;", "v = @ * 0;", "v = 0 * @;", "v = @ & 0;", "v = 0 & @;", "v = @ | 1;", "v = 1 | @;", "v = @ ^ 1;", "v = 1 ^ @;",
	"v = @ << 1;", "v = @ >> 31;", "v = ror(@, 0);", "v = -@;", "v = ~@;", "v = mulhi(@, 0);", "v = mulhi(0, @);", "v = carry(@, 0);", "v = carry(0, @);",
	"m = @ == 0;", "m = 0 == @;", "m = @ != 0;", "m = 0 != @;", "m = @ < 0;", "m = 0 < @;", "m = @ <= 0;", "m = 0 <= @;", "m = @ > 0;", "m = 0 > @;", "m = @ >= 0;", "m = 0 >= @;",
	"m = !(@ == 0);", "v = word(@ == 0);", "m = (1 == 2) & (@ == 0);", "m = (@ == 0) & (1 == 2);", "m = (1 == 1) | (@ == 0);", "m = (@ == 0) | (1 == 1);", "m = (@ == 0) ^ (1 == 1);",
	"v = select(@ == 0, 1, 2);", "v = select(1 == 1, @, 2);", "v = select(1 == 2, @, 2);", "v = select(1 == 1, 2, @);", "v = select(1 == 2, 2, @);", "m = select(1 == 1, 1 == 1, @ == 0);",
	"v = a[@];", "v = a[@ & 1];", "v = give(give(@));", "v = a[give(@) & 0] + 1;", "give(@);",
}

// callees are functions that places call.
const callees = `
fn take(pub x: u32) { }
fn take2(pub x: u32, pub y: u32) { }
fn give(pub x: u32): pub u32 { return x; }
`

func TestTrapsInEachPlace(t *testing.T) {
	for _, x := range places {
		head := callees + "fn main(pub n: u32, out pub o: u32[2]) { var pub a: u32[2]; var pub v: u32; var pub m: mask; "
		p := parsed(t, head+strings.ReplaceAll(x, "@", "a[n]")+" }")
		if out, err := Eval(p, packed(1)); len(out) != 8 || err != api.OK {
			t.Errorf("%s: %x, error %d", x, out, err)
		}
		told(t, x, p, packed(2), "", api.ErrTrap)
		told(t, x, p, packed(0xffffffff), "", api.ErrTrap)
	}
}

func TestTrapsInFunctions(t *testing.T) {
	for _, x := range places {
		// At the place a function is called that traps, of which nothing is handed over but n.
		head := callees + "fn bad(pub n: u32): pub u32 { var pub l: u8[2]; return l[n]; } fn worse(pub n: u32): pub u32 { return bad(n); } fn main(pub n: u32, out pub o: u32[2]) { var pub a: u32[2]; var pub v: u32; var pub m: mask; "
		p := parsed(t, head+strings.ReplaceAll(x, "@", "worse(n)")+" }")
		if out, err := Eval(p, packed(1)); len(out) != 8 || err != api.OK {
			t.Errorf("%s: %x, error %d", x, out, err)
		}
		told(t, x, p, packed(2), "", api.ErrTrap)
	}
	for _, x := range []string{"l[n] = 1;", "for i < n max 1 { }", "let x = l[n];", "if n == 2 { l[2] = 1; }", "for i < n max 2 { l[i + 1] = 1; }"} {
		text := "fn f(pub n: u32) { var pub l: u8[2]; " + x + " } fn main(pub n: u32, out pub o: u32[1]) { o[0] = 5; f(n); o[0] = 6; }"
		makes(t, text, packed(1), packed(6))
		traps(t, text, packed(2))
	}
}

func TestNothingTrapsThatIsNotDone(t *testing.T) {
	const trap = "{ o[9] = 1; }"
	for _, x := range []string{"if n == 1 " + trap, "if n == 1 " + trap + " else { }", "if n != 1 { } else " + trap, "for i < n max 1 " + trap, "for i < 5 max 5 { for j < n max 1 " + trap + " }", "if n == 1 { if 1 == 1 " + trap + " }"} {
		text := "fn main(pub n: u32, out pub o: u32[1]) { " + x + " o[0] = 4; }"
		makes(t, text, packed(0), packed(4))
		traps(t, text, packed(1))
	}
}

func TestATrapLeavesNoOutput(t *testing.T) {
	for _, x := range []string{
		"fn main(out pub o: u32[1]) { o[0] = 5; o[1] = 5; }",
		"fn main(out pub o: u32[1]) { o[0] = 5; for i < 2 max 1 { } }",
		"fn main(out pub o: u32[1]) { o[0] = 5; for i < 9 max 9 { o[i] = i; } }",
		"fn main(out pub o: u32[1]) { o[0] = 5; let x = o[0] + o[o[0]]; }",
		"fn f(out pub o: u32[1]) { o[0] = 5; o[o[0]] = 7; } fn main(out pub o: u32[1]) { f(o); o[0] = 1; }",
		"fn main() { var pub l: u8[1]; l[1] = 1; }",
	} {
		traps(t, x, "")
	}
}

// Variables.

func TestVarsAreMadeAnew(t *testing.T) {
	makes(t, "fn main(out pub o: u32[3]) { for i < 3 max 3 { var pub x: u32; o[i] = x; x = 5; } }", "", packed(0, 0, 0))
	makes(t, "fn main(out pub o: u32[3]) { for i < 3 max 3 { var pub x: u32; x = x + i + 1; o[i] = x; } }", "", packed(1, 2, 3))
	makes(t, "fn main(out pub o: u32[3]) { for i < 3 max 3 { var pub m: mask; o[i] = word(m); m = !m; } }", "", packed(0, 0, 0))
	for _, elem := range []string{"u32", "u8"} {
		makes(t, "fn main(out pub o: u32[3]) { for i < 3 max 3 { var pub l: "+elem+"[5]; for j < 5 max 5 { o[i] = o[i] + l[j]; l[j] = 9; } } }", "", packed(0, 0, 0))
		makes(t, "fn main(out pub o: u32[6]) { var pub l: "+elem+"[6]; for i < 6 max 6 { o[i] = l[i] + 1; } }", "", packed(1, 1, 1, 1, 1, 1))
		makes(t, "fn f(pub v: u32): pub u32 { var pub l: "+elem+"[3]; let x = l[0] * 100 + l[1] * 10 + l[2]; l[0] = v; l[1] = v; l[2] = v; return x; } fn main(out pub o: u32[2]) { o[0] = f(5); o[1] = f(6); }", "", packed(0, 0))
		makes(t, "fn main(out pub o: u32[2]) { if 1 == 1 { var pub l: "+elem+"[2]; l[1] = 7; o[0] = l[1]; } if 1 == 1 { var pub l: "+elem+"[2]; o[1] = l[1]; } }", "", packed(7, 0))
	}
	// What was made ahead of the loop keeps what it has.
	makes(t, "fn main(out pub o: u32[3]) { var pub x: u32; var pub l: u8[1]; for i < 3 max 3 { x = x + 2; l[0] = l[0] + 3; o[i] = x * 100 + l[0]; } }", "", packed(203, 406, 609))
}

// Functions.

func TestFunctionsHaveNamesOfTheirOwn(t *testing.T) {
	makes(t, `
fn f(pub x: u32): pub u32 { let y = x * 2; var pub z: u32; z = y + 1; for i < 2 max 2 { z = z + i; } return z; }
fn main(out pub o: u32[5]) { let x = 10; let y = 20; var pub z: u32; z = 30; for i < 2 max 2 { z = z + f(i); o[4] = o[4] + i; } o[0] = x; o[1] = y; o[2] = z; o[3] = f(y) + x; }
`, "", packed(10, 20, 36, 52, 1))
	makes(t, `
fn f(out pub a: u32[1], pub b: u32[1]) { a[0] = b[0] + 1; }
fn main(out pub a: u32[1], out pub b: u32[1]) { a[0] = 10; b[0] = 20; f(b, a); f(a, b); f(b, a); }
`, "", packed(12, 13))
	makes(t, `
fn f(out pub l: u8[2]) { var pub m: u8[2]; m[0] = 7; l[1] = m[0]; }
fn main(out pub l: u8[2], out pub m: u8[2]) { m[0] = 1; f(l); f(m); l[0] = m[1] + m[0]; }
`, "", packed(0x0708, 0x0701))
}

func TestScalarsAreHandedAsValues(t *testing.T) {
	makes(t, `
fn f(out pub l: u32[2], pub v: u32, pub w: u32): pub u32 { l[0] = 9; l[1] = v; return v * 10 + w; }
fn main(out pub o: u32[2], out pub q: u32[2]) { o[0] = 3; var pub x: u32; x = 4; q[0] = f(o, o[0], x); q[1] = x; }
`, "", packed(9, 3, 34, 4))
	makes(t, `
fn g(pub x: u32): pub u32 { var pub y: u32; y = x; y = y + 1; return y; }
fn main(out pub o: u32[3]) { var pub x: u32; x = 5; let y = 6; o[0] = g(x); o[1] = x; o[2] = y; }
`, "", packed(6, 5, 6))
}

func TestArraysAreHandedAsThemselves(t *testing.T) {
	// What is stored is seen at once by both, be they read or written.
	makes(t, `
fn f(out pub a: u32[2], pub b: u32[2], out pub c: u32[2]): pub u32 { a[0] = b[0] + 1; let x = b[0]; c[0] = c[0] * 10; return x * 1000 + b[0]; }
fn main(out pub o: u32[2]) { o[0] = 4; o[1] = f(o, o, o); }
`, "", packed(50, 5050))
	// On and on.
	makes(t, `
fn one(out sec a: u8[3], sec v: u32, pub k: u32) { a[k] = v; }
fn two(out sec b: u8[3], sec v: u32, pub k: u32) { one(b, v + 1, k); b[0] = b[0] + 1; }
fn three(out sec a: u8[3], sec v: u32, pub k: u32): sec u32 { two(a, v * 2, k); two(a, v, k - 1); return a[0] + a[1] + a[2]; }
fn main(sec n: u32, out sec o: u8[3], out sec q: u32[1]) { var sec l: u8[3]; q[0] = three(o, n, 2) * 1000 + three(l, n + 1, 2); o[0] = o[0] + l[2]; }
`, packed(20), "\x2d\x15\x29\x00"+packed(64067))
	// Arrays that are handed in, and then on.
	makes(t, `
fn sum(sec l: u8[3]): sec u32 { return l[0] + l[1] + l[2]; }
fn twice(sec m: u8[3]): sec u32 { return sum(m) * 2; }
fn main(sec k: u8[3], pub j: u8[3], out sec o: u32[2]) { o[0] = twice(k); o[1] = twice(j); }
`, "\x01\x02\x03\x00\xff\xfe\xfd\x00", packed(12, 1524))
	// One that was made in a loop is another one at each round.
	makes(t, `
fn add(out pub l: u32[1], pub v: u32) { l[0] = l[0] + v; }
fn main(out pub o: u32[3]) { for i < 3 max 3 { var pub l: u32[1]; add(l, i); add(l, 10); o[i] = l[0]; } }
`, "", packed(10, 11, 12))
	// What goes out of a function is stored even if another one is handed over at the same name's place.
	makes(t, `
fn swap(out pub a: u32[2], out pub b: u32[2]) { let x = a[0]; a[0] = b[1]; b[1] = x; }
fn main(out pub o: u32[2], out pub q: u32[2]) { o[0] = 1; o[1] = 2; q[0] = 3; q[1] = 4; swap(o, q); swap(q, q); swap(q, o); }
`, "", packed(4, 1, 2, 3))
}

func TestCallsWhoseValueIsLeft(t *testing.T) {
	makes(t, acts+"fn main(out pub o: u32[4]) { next(o); next(o); put(o, 2, 8); three(1, 2, 3); mark(o, 3); }", "", packed(23, 0, 8, 0))
	makes(t, "fn f(out pub l: u32[1]): pub mask { l[0] = l[0] + 1; return 1 == 1; } fn main(out pub o: u32[1]) { f(o); f(o); if f(o) { f(o); } }", "", packed(4))
}

func TestResults(t *testing.T) {
	makes(t, "fn f(): pub u32 { return 7; } fn g(): pub mask { return 1 == 1; } fn h(sec m: mask): sec mask { return !m; } fn n() { } fn main(out sec o: u32[3]) { n(); o[0] = f(); o[1] = word(g()); o[2] = word(h(g())); }", "", packed(7, 0xffffffff, 0))
	// A result is that of its own call: what is called on the way to it, or ahead of it, does not matter.
	makes(t, "fn f(): pub u32 { return 7; } fn g(): pub u32 { let x = f(); f(); return x + 1; } fn h(pub x: u32): pub u32 { f(); return g() * 10 + f() + x; } fn main(out pub o: u32[2]) { o[0] = h(g()); o[1] = g(); }", "", packed(95, 8))
	// Functions may have the names of others' parts.
	makes(t, "fn a(pub b: u32): pub u32 { return b + 1; } fn b(pub a: u32): pub u32 { return a(a) * 2; } fn main(pub a: u32, out pub o: u32[1]) { let b = b(a(a)); o[0] = a(b); }", packed(3), packed(11))
}

// Branches and loops.

func TestBothWays(t *testing.T) {
	for n := range uint32(4) {
		only := []uint32{0, 5}[mask(n == 2)&1]
		other := []uint32{6, 5}[mask(n == 2)&1]
		makes(t, "fn main(pub n: u32, out pub o: u32[1]) { if n == 2 { o[0] = 5; } }", packed(n), packed(only))
		makes(t, "fn main(pub n: u32, out pub o: u32[1]) { if n == 2 { o[0] = 5; } else { o[0] = 6; } }", packed(n), packed(other))
		makes(t, "fn main(pub n: u32, out pub o: u32[1]) { if n != 2 { o[0] = 6; } else { o[0] = 5; } }", packed(n), packed(other))
		makes(t, "fn main(pub n: u32, out pub o: u32[1]) { if n == 2 { } else { o[0] = 6; } }", packed(n), packed([]uint32{6, 0}[mask(n == 2)&1]))
		makes(t, "fn main(pub n: u32, out pub o: u32[1]) { if n == 0 { o[0] = 1; } else { if n == 1 { o[0] = 2; } else { if n == 2 { o[0] = 3; } else { o[0] = 4; } } } }", packed(n), packed(n+1))
		makes(t, "fn main(pub n: u32, out pub o: u32[1]) { if n < 2 { if n < 1 { o[0] = 1; } else { o[0] = 2; } } o[0] = o[0] + 10; }", packed(n), packed([]uint32{11, 12, 10, 10}[n]))
		makes(t, "fn main(pub n: u32, out pub o: u32[1]) { let m = (n == 1) | (n == 3); if m { o[0] = 1; } if !m { o[0] = o[0] + 2; } }", packed(n), packed([]uint32{2, 1, 2, 1}[n]))
		// Only one way is done, even if what it hung on is changed there.
		makes(t, "fn main(pub n: u32, out pub o: u32[1]) { var pub v: u32; v = n; if v == 2 { v = 3; o[0] = o[0] + 1; } else { v = 2; o[0] = o[0] + 10; } }", packed(n), packed([]uint32{10, 1}[mask(n == 2)&1]))
	}
}

func TestBounds(t *testing.T) {
	for _, most := range []int{0, 1, 2, 7, 255, 256, 1000} {
		text := withLength("fn main(pub n: u32, out pub o: u32[2]) { for i < n max @ { o[0] = o[0] + 1; o[1] = i; } }", most)
		p := parsed(t, text)
		for n := range most + 1 {
			if n > 8 && n < most-3 {
				continue
			}
			last := uint32(max(0, n-1))
			told(t, text, p, packed(uint32(n)), packed(uint32(n), last), api.OK)
		}
		for _, n := range beyond(most + 1) {
			told(t, text, p, packed(n), "", api.ErrTrap)
		}
	}
	// As many rounds as a program may cost.
	const long = "fn main(pub n: u32, out pub o: u32[1]) { for i < n max 16382 { o[0] = i; } }"
	if n := types.Cost(parsed(t, long)); n <= 65530 || n > 65536 {
		t.Errorf("%s costs %d", long, n)
	}
	makes(t, long, packed(16382), packed(16381))
	traps(t, long, packed(16383))
	const bare = "fn main(pub n: u32) { for i < n max 65532 { } }"
	makes(t, bare, packed(65532), "")
	traps(t, bare, packed(65533))
	traps(t, bare, packed(65536))
}

func TestABoundIsTakenOnce(t *testing.T) {
	makes(t, "fn main(out pub o: u32[2]) { var pub n: u32; n = 3; for i < n max 9 { n = n + 1; o[0] = o[0] + 1; } o[1] = n; }", "", packed(3, 6))
	makes(t, "fn main(out pub o: u32[2]) { var pub n: u32; n = 3; for i < n max 9 { n = 0; o[0] = o[0] + 1; } o[1] = n; }", "", packed(3, 0))
	makes(t, "fn main(out pub o: u32[2]) { o[0] = 4; for i < o[0] max 4 { o[0] = 99; o[1] = o[1] + 1; } }", "", packed(99, 4))
	makes(t, "fn f(out pub l: u32[1]): pub u32 { l[0] = l[0] + 2; return l[0]; } fn main(out pub o: u32[1], out pub q: u32[1]) { for i < f(o) + f(o) max 6 { q[0] = q[0] + 1; } }", "", packed(4, 6))
	traps(t, "fn main(out pub o: u32[2]) { o[0] = 5; for i < o[0] max 4 { o[0] = 1; } }", "")
}

func TestLoopsWithinLoops(t *testing.T) {
	makes(t, "fn main(out pub o: u32[12]) { for i < 3 max 3 { for j < 4 max 4 { o[i * 4 + j] = i * 10 + j; } } }", "", packed(0, 1, 2, 3, 10, 11, 12, 13, 20, 21, 22, 23))
	makes(t, "fn main(out pub o: u32[3]) { for i < 5 max 5 { for j < i max 4 { o[0] = o[0] + j; o[1] = o[1] + 1; } o[2] = o[2] * 10 + i; } }", "", packed(10, 10, 1234))
	makes(t, "fn main(out pub o: u32[2]) { for i < 3 max 3 { for j < 2 max 2 { o[0] = o[0] * 2 + 1; } for j < 3 max 3 { o[1] = o[1] + j + i; } } }", "", packed(63, 18))
	makes(t, "fn f(out pub l: u32[1], pub n: u32) { for i < n max 3 { l[0] = l[0] * 10 + i; } } fn main(out pub o: u32[1]) { for i < 4 max 4 { f(o, i); } }", "", packed(1012))
	traps(t, "fn main(out pub o: u32[2]) { for i < 5 max 5 { for j < i max 3 { } } }", "")
	makes(t, "fn main(out pub o: u32[2]) { for i < 0 max 0 { for j < i max 0 { o[0] = 1; } } for i < 1 max 1 { for j < i max 0 { o[1] = 1; } } }", "", packed(0, 0))
}

// What goes in and out.

func TestInputs(t *testing.T) {
	for _, x := range []struct {
		params string
		size   int
	}{{"", 0}, {"pub n: u32", 4}, {"sec b: u8[1]", 4}, {"sec b: u8[5]", 8}, {"pub w: u32[3]", 12}, {"pub n: u32, out pub o: u32[9], sec b: u8[2], sec m: u32", 12}, {"out pub o: u8[9]", 0}, {"pub l: u32[16384]", 65536}} {
		p := parsed(t, "fn main("+x.params+") { }")
		out := 0
		for _, y := range p.Funcs[0].Params {
			if _, _, n := bytesOf(y.Type); y.Out {
				out += n
			}
		}
		told(t, x.params, p, strings.Repeat("\x01", x.size), strings.Repeat("\x00", out), api.OK)
		for n := range x.size + 40 {
			if n != x.size && (n < 40 || n > x.size-40) {
				told(t, x.params, p, strings.Repeat("\x01", n), "", api.ErrArg)
			}
		}
	}
}

func TestTheInputIsAheadOfAnyTrap(t *testing.T) {
	const text = "fn main(pub n: u32, out pub o: u32[1]) { o[9] = 1; }"
	traps(t, text, "\x00\x00\x00\x00")
	refuses(t, text, "\x00\x00\x00", api.ErrArg)
	refuses(t, text, "\x00\x00\x00\x00\x00", api.ErrArg)
	refuses(t, text, "", api.ErrArg)
	refuses(t, "fn main() { for i < 1 max 0 { } }", "\x00", api.ErrArg)
	traps(t, "fn main() { for i < 1 max 0 { } }", "")
}

// amiss are texts of which each has an error of Check's; most would trap, or do so.
var amiss = []struct {
	what, text string
	err        api.Errno
}{
	{"no function", "", api.ErrMain},
	{"a last function that is not main", "fn main() { } fn other(pub n: u32) { }", api.ErrMain},
	{"main with a result", "fn main(pub n: u32): pub u32 { return n; }", api.ErrMain},
	{"main of a mask", "fn main(pub n: u32, pub m: mask) { }", api.ErrMain},
	{"a function twice", "fn f() { } fn f() { } fn main(pub n: u32) { }", api.ErrTwice},
	{"a parameter twice", "fn main(pub n: u32, sec n: u8[4]) { }", api.ErrTwice},
	{"a name twice", "fn main(pub n: u32) { let n = 1; }", api.ErrTwice},
	{"a name that is not known", "fn main(pub n: u32) { let q = m; }", api.ErrName},
	{"a name that is known no more", "fn main(pub n: u32) { if n == 0 { let x = 1; } let y = x; }", api.ErrName},
	{"a function that is not known", "fn main(pub n: u32) { f(); } ", api.ErrName},
	{"a function that calls itself", "fn main(pub n: u32) { main(n); } ", api.ErrName},
	{"a scalar that goes out", "fn main(pub n: u32, out pub o: u32) { }", api.ErrType},
	{"a mask where a word should be", "fn main(pub n: u32) { let q = n + (n == 0); }", api.ErrType},
	{"what is stored where it may not be", "fn main(pub n: u32[4]) { n[0] = 1; }", api.ErrType},
	{"no result", "fn f(): pub u32 { } fn main(pub n: u32) { }", api.ErrType},
	{"what is secret told", "fn main(sec n: u32, out pub o: u32[1]) { o[0] = n; }", api.ErrFlow},
	{"a secret condition", "fn main(sec n: u32) { if n == 0 { } }", api.ErrFlow},
	{"too few handed over", "fn f(pub a: u32) { } fn main(pub n: u32) { f(); }", api.ErrArity},
	{"an array that is too long", "fn main(pub n: u32, pub l: u8[16385]) { }", api.ErrLimit},
	{"too many bits", "fn main(pub n: u32) { let q = n << 32; }", api.ErrLimit},
	{"too many bytes of input", "fn main(pub l: u32[16384], pub n: u32) { }", api.ErrLimit},
	{"too many bytes of output", "fn main(out pub l: u32[16384], out pub n: u8[1]) { }", api.ErrLimit},
	{"a loop that is too long", "fn main(pub n: u32) { for i < n max 65537 { } }", api.ErrLimit},
	{"what costs too much", "fn main(pub n: u32) { for i < n max 65536 { } }", api.ErrLimit},
	{"an error behind a trap", "fn main(pub n: u32, out pub o: u32[1]) { o[1] = 1; x = 1; }", api.ErrName},
	{"an error in a function that none calls", "fn f() { x = 1; } fn main(pub n: u32) { }", api.ErrName},
}

func TestErrorsOfCheck(t *testing.T) {
	for _, x := range amiss {
		p := parsed(t, x.text)
		if bad := types.Check(p); bad.Err != x.err {
			t.Fatalf("%s: Check tells %d, wanted %d", x.what, bad.Err, x.err)
		}
		// Whether the input is right does not matter.
		for _, n := range []int{0, 1, 3, 4, 5, 8, 12, 65536, 65540} {
			told(t, x.what, p, strings.Repeat("\x00", n), "", x.err)
		}
	}
}

// one is a number.
var one = api.Expr{Kind: api.ENum, Num: 1}

func TestWhatIsNotMade(t *testing.T) {
	main := func(l ...api.Stmt) api.Program {
		return api.Program{Funcs: []api.Func{{Name: "main", Params: []api.Param{{Name: "o", Type: api.Type{Len: 1}, Out: true}}, Body: l}}}
	}
	store := func(x api.Expr) api.Program {
		return main(api.Stmt{Kind: api.SStore, Name: "o", Args: []api.Expr{{Kind: api.ENum}, x}})
	}
	told(t, "a number", store(one), "", packed(1), api.OK)
	for _, p := range []api.Program{
		main(api.Stmt{}), main(api.Stmt{Kind: 9}), main(api.Stmt{Kind: -1}), main(api.Stmt{Kind: api.SLet, Name: "x"}), main(api.Stmt{Kind: api.SStore, Name: "o", Args: []api.Expr{one}}),
		main(api.Stmt{Kind: api.SReturn}), main(api.Stmt{Kind: api.SCall, Args: []api.Expr{one}}), main(api.Stmt{Kind: api.SCall}), main(api.Stmt{Kind: api.SIf}), main(api.Stmt{Kind: api.SFor, Name: "i"}),
		main(api.Stmt{Kind: api.SVar, Name: "x", Type: api.Type{Len: -1}}), main(api.Stmt{Kind: api.SFor, Name: "i", Args: []api.Expr{one}, Most: -1}),
		store(api.Expr{}), store(api.Expr{Kind: 27}), store(api.Expr{Kind: -1}), store(api.Expr{Kind: api.ENum, Num: -1}), store(api.Expr{Kind: api.ENum, Num: 1 << 32}), store(api.Expr{Kind: api.EAdd}), store(api.Expr{Kind: api.EAdd, Args: []api.Expr{one}}),
		store(api.Expr{Kind: api.ENot}), store(api.Expr{Kind: api.ESelect, Args: []api.Expr{one}}), store(api.Expr{Kind: api.EIndex, Name: "o"}), store(api.Expr{Kind: api.EName}), store(api.Expr{Kind: api.EShl, Num: -1, Args: []api.Expr{one}}),
		{Funcs: []api.Func{{}}}, {Funcs: []api.Func{{Name: "main", Params: []api.Param{{}}}}},
	} {
		told(t, "what is not made", p, "", "", api.ErrArg)
		told(t, "what is not made", p, "\x00", "", api.ErrArg)
	}
	told(t, "no program", api.Program{}, "", "", api.ErrMain)
	deep := one
	for range 64 {
		deep = api.Expr{Kind: api.ENeg, Args: []api.Expr{deep}}
	}
	told(t, "nests that are too deep", store(deep), "", "", api.ErrDeep)
}

func TestOutputs(t *testing.T) {
	makes(t, "fn main(out pub a: u8[1], out sec b: u32[2], out pub c: u8[5], out pub d: u8[4], out sec e: u32[1], out sec f: u8[7]) { a[0] = 0x1ff; b[0] = 1; b[1] = 0xfedcba98; for i < 5 max 5 { c[i] = i + 250; } d[0] = 9; d[3] = 8; e[0] = 0x01020304; for i < 7 max 7 { f[6 - i] = i + 1; } }", "",
		"\xff\x00\x00\x00"+"\x01\x00\x00\x00\x98\xba\xdc\xfe"+"\xfa\xfb\xfc\xfd\xfe\x00\x00\x00"+"\x09\x00\x00\x08"+"\x04\x03\x02\x01"+"\x07\x06\x05\x04\x03\x02\x01\x00")
	// What goes in and what goes out may stand in any order.
	makes(t, "fn main(out pub a: u8[2], sec x: u8[2], out sec b: u8[3], sec y: u32, out pub c: u32[1], pub z: u8[1]) { b[0] = x[0]; b[1] = x[1]; b[2] = y; c[0] = z[0]; a[1] = z[0] + 1; }",
		"\x0a\x0b\x00\x00"+"\x0c\x0d\x0e\x0f"+"\x14\x00\x00\x00", "\x00\x15\x00\x00"+"\x0a\x0b\x0c\x00"+"\x14\x00\x00\x00")
	// 0 in all elements, where nothing is stored.
	makes(t, "fn main(pub n: u32, out pub a: u8[6], out sec b: u32[3]) { }", "\xff\xff\xff\xff", strings.Repeat("\x00", 20))
	makes(t, "fn main(out pub o: u32[16384]) { o[16383] = 0x0a0b0c0d; }", "", strings.Repeat("\x00", 65532)+"\x0d\x0c\x0b\x0a")
	makes(t, "fn main(out pub o: u8[16384], out pub q: u8[16381]) { o[16383] = 1; q[16380] = 2; }", "", strings.Repeat("\x00", 16383)+"\x01"+strings.Repeat("\x00", 16380)+"\x02\x00\x00\x00")
}

func TestNoParameters(t *testing.T) {
	makes(t, "fn main() { }", "", "")
	makes(t, "fn f(): pub u32 { return 1; } fn main() { let x = f(); var pub l: u8[9]; l[8] = x; for i < 3 max 3 { l[i] = i; } }", "", "")
	traps(t, "fn main() { let x = 1; for i < x max 0 { } }", "")
	refuses(t, "fn main() { }", "\x00", api.ErrArg)
	makes(t, "fn main(pub n: u32, sec k: u8[3]) { let x = n; }", "12345678", "")
}

// P16.2

func TestMadeUpBytes(t *testing.T) {
	const params = "sec a: u8[1], pub n: u32, sec b: u8[2], out sec o: u32[1], pub c: u8[3], sec d: u8[4], sec w: u32[2], pub e: u8[5]"
	for _, x := range []struct {
		text string
		err  api.Errno
	}{
		{"fn main(" + params + ") { o[0] = a[0] + n * 3 + b[0] * 5 + b[1] * 7 + c[0] * 11 + c[1] * 13 + c[2] * 17 + d[0] * 19 + d[3] * 23 + w[0] * 29 + w[1] * 31 + e[0] * 37 + e[4] * 41; }", api.OK},
		{"fn sum(sec l: u8[5]): sec u32 { var sec s: u32; for i < 5 max 5 { s = s * 3 + l[i]; } return s; } fn main(" + params + ") { o[0] = sum(e) + n; }", api.OK},
		{"fn main(" + params + ") { o[0] = 1; o[1] = c[2]; }", api.ErrTrap},
		{"fn main(" + params + ") { o[0] = c[n - n + 3]; }", api.ErrTrap},
	} {
		p := parsed(t, x.text)
		made, _ := madeUp(p)
		behind := 0
		s := []byte("abcdefghijklmnopqrstuvwxyz0123456789ABCD"[:len(made)])
		for _, zero := range []bool{false, true} {
			for k := range s {
				if made[k] && zero {
					s[k] = 0
				}
			}
			want, err := Eval(p, string(s))
			if err != x.err {
				t.Fatalf("%s: error %d", x.text, err)
			}
			told(t, x.text, p, string(s), want, err)
			for k := range s {
				if !made[k] {
					continue
				}
				behind++
				was := s[k]
				for _, b := range []byte{0, 1, 2, 4, 8, 16, 32, 64, 128, 255} {
					s[k] = was ^ b
					told(t, x.text, p, string(s), want, err)
				}
				s[k] = was
			}
		}
		if behind != 2*(3+2+1+3) {
			t.Errorf("%d bytes are made up", behind)
		}
	}
}

// P16.3

// ahead are functions that may stand ahead, of names that no others have; some would trap.
var ahead = []string{
	"fn ahead() { }",
	"fn ahead(): pub u32 { return 1; }",
	"fn ahead() { var pub l: u8[1]; l[1] = 1; }",
	"fn ahead() { for i < 1 max 0 { } }",
	"fn ahead(pub n: u32, out sec o: u32[4], pub w: u32[4]): sec mask { o[n] = w[n + 4]; for i < n max 0 { } return o[9] == 1; }",
	"fn ahead(out pub o: u32[2]) { var pub l: u32[16384]; o[0] = 7; o[1] = l[16384]; }",
	"fn ahead(pub n: u32): pub u32 { for i < 65536 max 65536 { for j < 65536 max 65536 { } } return n; }",
	"fn ahead(sec m: mask, sec a: u8[3]): sec mask { let x = select(m, a[0], a[1]); return x < a[2]; } fn onward(sec a: u8[3]) { ahead(a[0] == 1, a); }",
}

// based are programs, with an input, behind which, and between whose functions, others may stand.
var based = []struct{ text, input string }{
	{"fn main() { }", ""},
	{"fn main(pub n: u32, out pub o: u32[2]) { o[n] = n + 1; }", "\x01\x00\x00\x00"},
	{"fn main(pub n: u32, out pub o: u32[2]) { o[n] = n + 1; }", "\x02\x00\x00\x00"},
	{"fn main(pub n: u32, out pub o: u32[2]) { o[n] = n + 1; }", "\x02\x00\x00"},
	{"fn f(out pub l: u32[2], pub n: u32): pub u32 { l[n] = 5; return n * 2; }\nfn g(pub n: u32): pub u32 { return n + 1; }\nfn main(pub n: u32, out pub o: u32[2]) { o[1] = f(o, g(n)) + g(3); }", "\x00\x00\x00\x00"},
	{"fn f(out pub l: u32[2], pub n: u32): pub u32 { l[n] = 5; return n * 2; }\nfn g(pub n: u32): pub u32 { return n + 1; }\nfn main(pub n: u32, out pub o: u32[2]) { o[1] = f(o, g(n)) + g(3); }", "\x01\x00\x00\x00"},
}

func TestFunctionsAhead(t *testing.T) {
	for _, x := range based {
		p := parsed(t, x.text)
		want, err := Eval(p, x.input)
		told(t, x.text, p, x.input, want, err)
		for _, text := range ahead {
			more := parsed(t, text)
			for k := range p.Funcs {
				var q api.Program
				q.Funcs = append(append(append(q.Funcs, p.Funcs[:k]...), more.Funcs...), p.Funcs[k:]...)
				told(t, text+x.text, q, x.input, want, err)
			}
		}
	}
	// Names that main's own have, or that others' parts have, do not matter.
	makes(t, "fn o(out pub main: u32[1]) { main[0] = 9; main[1] = 9; } fn n(): pub u32 { var pub o: u32[1]; o[0] = 8; return o[0]; } fn main(pub n: u32, out pub o: u32[1]) { o[0] = n; }", packed(3), packed(3))
}

func TestWritesAreInTheOutputAlone(t *testing.T) {
	// Each element by itself: all others, and what is made up, stay 0.
	const text = "fn main(pub k: u32, out sec a: u8[3], out pub b: u32[2], out sec c: u8[5]) { var pub l: u32[9]; var pub m: u8[9]; if k < 3 { a[k] = 0xaaaaaaff; } else { if k < 5 { b[k - 3] = 0xffffffff; } else { c[k - 5] = 0xaaaaaaff; } } l[k] = 7; m[k] = 7; }"
	p := parsed(t, text)
	for k := range uint32(9) {
		want := make([]byte, 20)
		switch {
		case k < 3:
			want[k] = 0xff
		case k < 5:
			copy(want[4*(k-2):], "\xff\xff\xff\xff")
		default:
			want[12+k-5] = 0xff
		}
		told(t, text, p, packed(k), string(want), api.OK)
	}
	for _, k := range []uint32{9, 10, 12, 0xffffffff} {
		told(t, text, p, packed(k), "", api.ErrTrap)
	}
}

// What is deep, and what is long.

func TestDeep(t *testing.T) {
	x := api.Expr{Kind: api.EName, Name: "n"}
	for range 32000 {
		x = api.Expr{Kind: api.EAdd, Args: []api.Expr{x, one}}
	}
	param := api.Param{Name: "n"}
	out := api.Param{Name: "o", Type: api.Type{Len: 1}, Out: true}
	store := api.Stmt{Kind: api.SStore, Name: "o", Args: []api.Expr{{Kind: api.ENum}, x}}
	p := api.Program{Funcs: []api.Func{{Name: "main", Params: []api.Param{param, out}, Body: []api.Stmt{store}}}}
	told(t, "a long sum", p, packed(5), packed(32005), api.OK)
	index := api.Expr{Kind: api.EIndex, Name: "o", Args: []api.Expr{one}}
	x = index
	for range 32000 {
		x = api.Expr{Kind: api.EAdd, Args: []api.Expr{x, one}}
	}
	p.Funcs[0].Body[0].Args[1] = x
	told(t, "a long sum that traps at its end", p, packed(5), "", api.ErrTrap)
	const depth = 60
	told(t, "signs", parsed(t, "fn main(out pub o: u32[1]) { o[0] = "+strings.Repeat("-", depth)+"9; }"), "", packed(9), api.OK)
	told(t, "blocks", parsed(t, "fn main(out pub o: u32[1]) { "+strings.Repeat("if 1 == 1 {", depth)+" o[0] = 9; "+strings.Repeat("}", depth)+"}"), "", packed(9), api.OK)
	told(t, "indices", parsed(t, "fn main(out pub o: u32[2]) { o[1] = 1; o[0] = "+strings.Repeat("o[", depth)+"1"+strings.Repeat("]", depth)+" + 1; }"), "", packed(2, 1), api.OK)
}

func TestLongWaysOfCalls(t *testing.T) {
	const many = 15000
	call := func(k int) []api.Expr {
		return []api.Expr{{Kind: api.ECall, Name: "f" + strconv.Itoa(k), Args: []api.Expr{{Kind: api.EName, Name: "o"}}}}
	}
	params := []api.Param{{Name: "o", Type: api.Type{Len: 1}, Out: true}}
	zero := api.Expr{Kind: api.ENum}
	p := api.Program{Funcs: []api.Func{{Name: "f0", Params: params, Body: []api.Stmt{{Kind: api.SStore, Name: "o", Args: []api.Expr{zero, {Kind: api.ENum, Num: 77}}}}}}}
	for k := range many {
		p.Funcs = append(p.Funcs, api.Func{Name: "f" + strconv.Itoa(k+1), Params: params, Body: []api.Stmt{{Kind: api.SCall, Args: call(k)}}})
	}
	p.Funcs = append(p.Funcs, api.Func{Name: "main", Params: params, Body: []api.Stmt{{Kind: api.SCall, Args: call(many)}}})
	told(t, "a long way of calls", p, "", packed(77), api.OK)
	p.Funcs[0].Body[0].Args[0] = one
	told(t, "a long way of calls that traps", p, "", "", api.ErrTrap)
}

// What holds in every layer.

// roomy tells a program whose lists have room behind them, with other things in it.
func roomy(p api.Program) api.Program {
	l := make([]api.Func, len(p.Funcs), len(p.Funcs)+2)
	for k, f := range p.Funcs {
		params := append(make([]api.Param, 0, len(f.Params)+2), f.Params...)
		_ = append(params, api.Param{Name: "behind"})
		f.Params, f.Body = params, roomyBlock(f.Body)
		l[k] = f
	}
	_ = append(l, api.Func{Name: "behind"})
	return api.Program{Funcs: l}
}

// roomyBlock does so with statements.
func roomyBlock(l []api.Stmt) []api.Stmt {
	all := append(make([]api.Stmt, 0, len(l)+2), l...)
	_ = append(all, api.Stmt{Name: "behind"})
	for k := range all {
		s := &all[k]
		s.Args, s.Body, s.Else = roomyArgs(s.Args), roomyBlock(s.Body), roomyBlock(s.Else)
	}
	return all
}

// roomyArgs does so with expressions.
func roomyArgs(l []api.Expr) []api.Expr {
	all := append(make([]api.Expr, 0, len(l)+2), l...)
	_ = append(all, api.Expr{Name: "behind"})
	for k := range all {
		all[k].Args = roomyArgs(all[k].Args)
	}
	return all
}

// whole tells a program with all that is in the room behind its lists.
func whole(p api.Program) []any {
	l := []any{p.Funcs[:cap(p.Funcs)]}
	for _, f := range p.Funcs {
		l = append(l, f.Params[:cap(f.Params)])
		l = append(l, wholeBlock(f.Body)...)
	}
	return l
}

// wholeBlock does so with statements.
func wholeBlock(b []api.Stmt) []any {
	l := []any{b[:cap(b)]}
	for _, s := range b {
		l = append(l, wholeArgs(s.Args)...)
		l = append(l, wholeBlock(s.Body)...)
		l = append(l, wholeBlock(s.Else)...)
	}
	return l
}

// wholeArgs does so with expressions.
func wholeArgs(x []api.Expr) []any {
	l := []any{x[:cap(x)]}
	for _, a := range x {
		l = append(l, wholeArgs(a.Args)...)
	}
	return l
}

// leaves fails, if Eval changes the program, or what stands behind its lists, or tells something else the second time.
func leaves(t *testing.T, p api.Program, input string) {
	t.Helper()
	p, same := roomy(p), roomy(p)
	given := strings.Clone(input)
	out, err := Eval(p, given)
	if !reflect.DeepEqual(whole(p), whole(same)) {
		t.Errorf("%+v was changed to %+v", same, p)
	}
	if given != input {
		t.Errorf("the input %x was changed to %x", input, given)
	}
	if again, e := Eval(p, given); again != out || e != err {
		t.Errorf("%+v: %x, error %d, and then %x, error %d", p, out, err, again, e)
	}
}

func TestWhatIsHandedInStaysAsItWas(t *testing.T) {
	for _, x := range based {
		leaves(t, parsed(t, x.text), x.input)
	}
	for _, x := range amiss {
		leaves(t, parsed(t, x.text), "\x00\x00\x00\x00")
	}
	for _, x := range places {
		text := callees + "fn main(pub n: u32, out pub o: u32[2]) { var pub a: u32[2]; var pub v: u32; var pub m: mask; " + strings.ReplaceAll(x, "@", "a[n]") + " }"
		leaves(t, parsed(t, text), packed(1))
		leaves(t, parsed(t, text), packed(2))
	}
}

func TestProgramsApart(t *testing.T) {
	// What one call does is not known to the next one.
	p := parsed(t, "fn f(out pub l: u32[1]) { l[0] = l[0] + 1; } fn main(pub n: u32, out pub o: u32[1]) { f(o); o[0] = o[0] + n; }")
	q := parsed(t, "fn f(out pub l: u32[1]) { l[0] = l[0] + 100; } fn main(pub n: u32, out pub o: u32[1]) { f(o); f(o); o[n] = o[0]; }")
	for range 3 {
		told(t, "p", p, packed(5), packed(6), api.OK)
		told(t, "q", q, packed(0), packed(200), api.OK)
		told(t, "q", q, packed(1), "", api.ErrTrap)
		told(t, "p", p, "", "", api.ErrArg)
	}
}
