package word

import (
	"fmt"
	"math"
	"math/big"
	"testing"
)

const all = 4294967295

// numbers are words at the edges and between them, and numbers that are no words, whose words must be taken first.
func numbers() []int {
	l := []int{
		0, 1, 2, 3, 7, 8, 255, 256, 65535, 65536, 65537,
		0x01020304, 0x55555555, 0x7fffffff, 0x80000000, 0x80000001, 0xaaaaaaaa, 0xdeadbeef, all - 1, all,
		1 << 32, 1<<32 + 1, 1<<33 - 1, 5<<32 + 0x80000000, 1 << 62, math.MaxInt, math.MaxInt - 1,
		-1, -2, -255, -65536, -1 << 31, -1<<31 - 1, -1 << 32, -1<<32 + 1, -1<<32 - 1, -1 << 40, math.MinInt, math.MinInt + 1,
	}
	x := uint64(88172645463325252)
	for range 40 {
		x ^= x << 13
		x ^= x >> 7
		x ^= x << 17
		l = append(l, int(x), int(x>>32))
	}
	return l
}

// counts are numbers of bits: all from below 0 to above 64, and some far out.
func counts() []int {
	l := []int{math.MinInt, math.MinInt + 5, -1 << 32, -1<<32 - 1, 1 << 32, 1<<32 + 7, math.MaxInt}
	for n := -70; n <= 70; n++ {
		l = append(l, n)
	}
	return l
}

// left tells what is left of a number, as one of 64 bits without a sign, by 2^k; by way of big numbers, so that nothing wraps.
func left(n int, k uint) *big.Int {
	x := big.NewInt(int64(n))
	if n < 0 {
		x.Add(x, power(64))
	}
	return x.Mod(x, power(k))
}

func power(k uint) *big.Int { return new(big.Int).Lsh(big.NewInt(1), k) }

func wordOf(x *big.Int) int { return int(new(big.Int).Mod(x, power(32)).Int64()) }

func bitsLeft(n int) uint { return uint(left(n, 5).Int64()) }

// bitsOf tells a number's bits by its digits in base 2, the lowest first.
func bitsOf(n int) [32]bool {
	var r [32]bool
	s := fmt.Sprintf("%032b", left(n, 32))
	for i := range r {
		r[i] = s[31-i] == '1'
	}
	return r
}

// fromBits tells the word whose bit i is what f says.
func fromBits(f func(i int) bool) int {
	r := big.NewInt(0)
	for i := range 32 {
		if f(i) {
			r.Add(r, power(uint(i)))
		}
	}
	return int(r.Int64())
}

type row struct {
	name      string
	got, want int
}

func checkRows(t *testing.T, l []row) {
	t.Helper()
	for _, r := range l {
		if r.got != r.want {
			t.Errorf("%s: got %d, want %d", r.name, r.got, r.want)
		}
	}
}

// pairs goes through all two numbers.
func pairs(f func(a, b int)) {
	l := numbers()
	for _, a := range l {
		for _, b := range l {
			f(a, b)
		}
	}
}

// shifts goes through all numbers with all numbers of bits.
func shifts(f func(a, n int)) {
	for _, a := range numbers() {
		for _, n := range counts() {
			f(a, n)
		}
	}
}

func hold(t *testing.T, name string, a, b, got, want int) {
	t.Helper()
	if got != want {
		t.Fatalf("%s(%d, %d): got %d, want %d", name, a, b, got, want)
	}
}

// P1.1

func TestSumsWrittenOut(t *testing.T) {
	checkRows(t, []row{
		{"Wrap 0", Wrap(0), 0},
		{"Wrap greatest", Wrap(all), all},
		{"Wrap 2^32", Wrap(1 << 32), 0},
		{"Wrap 2^32+5", Wrap(1<<32 + 5), 5},
		{"Wrap -1", Wrap(-1), all},
		{"Wrap -2^31", Wrap(-1 << 31), 2147483648},
		{"Wrap -2^32", Wrap(-1 << 32), 0},
		{"Wrap least int", Wrap(math.MinInt), 0},
		{"Wrap greatest int", Wrap(math.MaxInt), all},
		{"Add", Add(41, 1), 42},
		{"Add goes round", Add(all, 1), 0},
		{"Add below 0", Add(-1, -1), all - 1},
		{"Sub", Sub(43, 1), 42},
		{"Sub goes round", Sub(0, 1), all},
		{"Sub above", Sub(1<<32, 1), all},
		{"Mul", Mul(6, 7), 42},
		{"Mul goes round", Mul(65536, 65536), 0},
		{"Mul greatest", Mul(all, all), 1},
		{"Mul below 0", Mul(-2, 3), 4294967290},
		{"High small", High(6, 7), 0},
		{"High", High(65536, 65536), 1},
		{"High greatest", High(all, all), 4294967294},
		{"High has no sign", High(-1, 2), 1},
		{"Carry none", Carry(all, 0), 0},
		{"Carry", Carry(all, 1), 1},
		{"Carry greatest", Carry(all, all), 1},
		{"Carry of words", Carry(1<<32, 1<<32), 0},
		{"Carry below 0", Carry(-1, 1), 1},
	})
}

func TestSums(t *testing.T) {
	for _, n := range numbers() {
		hold(t, "Wrap", n, 0, Wrap(n), wordOf(left(n, 32)))
	}
	pairs(func(a, b int) {
		x, y := left(a, 32), left(b, 32)
		sum := new(big.Int).Add(x, y)
		product := new(big.Int).Mul(x, y)
		carry := 0
		if sum.Cmp(power(32)) >= 0 {
			carry = 1
		}
		hold(t, "Add", a, b, Add(a, b), wordOf(sum))
		hold(t, "Sub", a, b, Sub(a, b), wordOf(new(big.Int).Sub(x, y)))
		hold(t, "Mul", a, b, Mul(a, b), wordOf(product))
		hold(t, "High", a, b, High(a, b), int(new(big.Int).Rsh(product, 32).Int64()))
		hold(t, "Carry", a, b, Carry(a, b), carry)
	})
}

// P1.2

func TestBitsWrittenOut(t *testing.T) {
	checkRows(t, []row{
		{"Not 0", Not(0), all},
		{"Not greatest", Not(all), 0},
		{"Not above", Not(1 << 32), all},
		{"And", And(12, 10), 8},
		{"And below 0", And(-1, 1<<32+6), 6},
		{"Or", Or(12, 10), 14},
		{"Or above", Or(1<<40, 1), 1},
		{"Or below 0", Or(-1, 0), all},
		{"Xor", Xor(12, 10), 6},
		{"Xor below 0", Xor(-1, 0), all},
		{"Shl", Shl(1, 31), 2147483648},
		{"Shl out", Shl(3, 31), 2147483648},
		{"Shl 32", Shl(3, 32), 3},
		{"Shl 33", Shl(3, 33), 6},
		{"Shl -1", Shl(1, -1), 2147483648},
		{"Shr", Shr(all, 31), 1},
		{"Shr 32", Shr(8, 32), 8},
		{"Shr -31", Shr(8, -31), 4},
		{"Shr of a word", Shr(1<<32, 1), 0},
		{"Sar 1s", Sar(1<<31, 31), all},
		{"Sar one", Sar(0x80000000, 1), 0xc0000000},
		{"Sar 0s", Sar(1<<30, 30), 1},
		{"Sar none", Sar(1<<31, 0), 1 << 31},
		{"Sar 32", Sar(1<<31, 32), 1 << 31},
		{"Sar -1", Sar(-1, -1), all},
		{"Ror", Ror(1, 1), 2147483648},
		{"Ror bytes", Ror(0x01020304, 8), 0x04010203},
		{"Ror none", Ror(all, 0), all},
		{"Ror 32", Ror(5, 32), 5},
		{"Ror -31", Ror(1, -31), 2147483648},
		{"Bit", Bit(8, 3), 1},
		{"Bit none", Bit(8, 2), 0},
		{"Bit 31", Bit(-1, 31), 1},
		{"Bit 32", Bit(1, 32), 1},
		{"Bit -1", Bit(1<<31, -1), 1},
		{"Bit of a word", Bit(1<<32, 0), 0},
		{"Flip on", Flip(0, 31), 2147483648},
		{"Flip off", Flip(8, 3), 0},
		{"Flip 32", Flip(0, 32), 1},
		{"Flip -1", Flip(0, -1), 2147483648},
		{"Flip of a word", Flip(-1, 0), all - 1},
	})
}

func TestBitByBit(t *testing.T) {
	pairs(func(a, b int) {
		x, y := bitsOf(a), bitsOf(b)
		hold(t, "Not", a, 0, Not(a), fromBits(func(i int) bool { return !x[i] }))
		hold(t, "And", a, b, And(a, b), fromBits(func(i int) bool { return x[i] && y[i] }))
		hold(t, "Or", a, b, Or(a, b), fromBits(func(i int) bool { return x[i] || y[i] }))
		hold(t, "Xor", a, b, Xor(a, b), fromBits(func(i int) bool { return x[i] != y[i] }))
	})
}

func TestShifts(t *testing.T) {
	shifts(func(a, n int) {
		k := bitsLeft(n)
		x := bitsOf(a)
		up := new(big.Int).Mul(left(a, 32), power(k))
		down := new(big.Int).Div(left(a, 32), power(k))
		hold(t, "Shl", a, n, Shl(a, n), wordOf(up))
		hold(t, "Shr", a, n, Shr(a, n), wordOf(down))
		hold(t, "Sar", a, n, Sar(a, n), fromBits(func(i int) bool { return x[min(i+int(k), 31)] }))
		hold(t, "Ror", a, n, Ror(a, n), fromBits(func(i int) bool { return x[(i+int(k))%32] }))
	})
}

func TestOneBit(t *testing.T) {
	shifts(func(a, n int) {
		k := int(bitsLeft(n))
		x := bitsOf(a)
		bit := 0
		if x[k] {
			bit = 1
		}
		hold(t, "Bit", a, n, Bit(a, n), bit)
		hold(t, "Flip", a, n, Flip(a, n), fromBits(func(i int) bool { return x[i] != (i == k) }))
	})
}

// P1.3

func TestMasksWrittenOut(t *testing.T) {
	checkRows(t, []row{
		{"Less", Less(1, 2), all},
		{"Less same", Less(2, 2), 0},
		{"Less above", Less(3, 2), 0},
		{"Less has no sign", Less(0, -1), all},
		{"Less of words", Less(1, 1<<32), 0},
		{"Same", Same(7, 7), all},
		{"Same unlike", Same(7, 8), 0},
		{"Same of words", Same(-1, all), all},
		{"Same of words above", Same(1<<32, 0), all},
		{"Select first", Select(all, 10, 5), 10},
		{"Select second", Select(0, 10, 5), 5},
		{"Select bits", Select(12, 10, 5), 9},
		{"Select below 0", Select(-1, -1, 0), all},
		{"Select above", Select(1<<32, 1, 2), 2},
	})
}

func TestMasks(t *testing.T) {
	pairs(func(a, b int) {
		less, same := 0, 0
		switch left(a, 32).Cmp(left(b, 32)) {
		case -1:
			less = all
		case 0:
			same = all
		}
		hold(t, "Less", a, b, Less(a, b), less)
		hold(t, "Same", a, b, Same(a, b), same)
	})
}

func TestSelect(t *testing.T) {
	for _, m := range numbers()[:50] {
		z := bitsOf(m)
		pairs(func(a, b int) {
			x, y := bitsOf(a), bitsOf(b)
			want := fromBits(func(i int) bool { return z[i] && x[i] || !z[i] && y[i] })
			hold(t, fmt.Sprintf("Select %d", m), a, b, Select(m, a, b), want)
		})
	}
}

// P1.4

func TestBytes(t *testing.T) {
	for _, x := range []struct {
		n int
		s string
	}{
		{0, "\x00\x00\x00\x00"},
		{1, "\x01\x00\x00\x00"},
		{0x01020304, "\x04\x03\x02\x01"},
		{0x80ff7f00, "\x00\x7f\xff\x80"},
		{all, "\xff\xff\xff\xff"},
		{-1, "\xff\xff\xff\xff"},
		{-2, "\xfe\xff\xff\xff"},
		{1 << 32, "\x00\x00\x00\x00"},
		{7<<32 + 9, "\x09\x00\x00\x00"},
		{math.MinInt, "\x00\x00\x00\x00"},
	} {
		if s := Bytes(x.n); s != x.s {
			t.Errorf("Bytes(%d): got %q, want %q", x.n, s, x.s)
		}
		if n, ok := Of(x.s); n != Wrap(x.n) || !ok {
			t.Errorf("Of(%q): got %d %v, want %d true", x.s, n, ok, Wrap(x.n))
		}
	}
}

func TestOfOtherLengths(t *testing.T) {
	for _, s := range []string{"", "\x01", "ab", "\xff\xff\xff", "abcde", "\x00\x00\x00\x00\x00", "abcdefgh", "éé\x00", "€"} {
		if n, ok := Of(s); n != 0 || ok {
			t.Errorf("Of(%q): got %d %v, want 0 false", s, n, ok)
		}
	}
	if n, ok := Of("éé"); n != 0xa9c3a9c3 || !ok {
		t.Errorf("bytes are counted, not runes: got %d %v", n, ok)
	}
}

// P1.5

func TestRings(t *testing.T) {
	l := numbers()
	pairs(func(a, b int) {
		hold(t, "Add then Sub", a, b, Sub(Add(a, b), b), Wrap(a))
		hold(t, "Sub then Add", a, b, Add(Sub(a, b), b), Wrap(a))
		whole := new(big.Int).Mul(big.NewInt(int64(High(a, b))), power(32))
		whole.Add(whole, big.NewInt(int64(Mul(a, b))))
		if whole.Cmp(new(big.Int).Mul(left(a, 32), left(b, 32))) != 0 {
			t.Fatalf("High and Mul of %d and %d are not the product", a, b)
		}
		for _, c := range l {
			hold(t, "product over a sum", a, b, Mul(c, Add(a, b)), Add(Mul(c, a), Mul(c, b)))
		}
	})
}

// P1.6

func TestBack(t *testing.T) {
	for _, a := range numbers() {
		n, ok := Of(Bytes(a))
		if n != Wrap(a) || !ok {
			t.Errorf("Of(Bytes(%d)): got %d %v", a, n, ok)
		}
		if s := Bytes(n); s != Bytes(a) || len(s) != 4 {
			t.Errorf("Bytes(Of(Bytes(%d))): got %q", a, s)
		}
	}
	shifts(func(a, n int) {
		hold(t, "Flip twice", a, n, Flip(Flip(a, n), n), Wrap(a))
		hold(t, "Ror there and back", a, n, Ror(Ror(a, n), 32-n), Wrap(a))
	})
}
