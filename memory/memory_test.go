package memory

import (
	"math"
	"slices"
	"strings"
	"testing"

	"hauberk/api"
	"hauberk/memmap"
)

// places is how many regions memmap's list has.
const places = 7

// bases are where regions begin, by the document's own numbers.
var bases = [places]int{0, 0x20010000, 0x20020000, 0x20040000, 0x20080000, 0x20100000, 0x20200000}

// small are sizes of which each is unlike the other ones, as is the flash that goes with them, which ends within a word.
var small = api.Sizes{In: 8, Out: 16, Rail: 12}

const (
	smallFlash = "\x01\x92\x83\xf4\x05\x96\x87\xf8\x09\x9a\x8b\xfc\x0d\x9e\x8f\xf0\x11\xa2\x93"
	smallInput = "abc\xffefg\x80"
)

// full are the greatest sizes.
var full = api.Sizes{In: 65536, Out: 65536, Rail: 65536}

// far are addresses of no region, whatever the sizes: below 0, between the regions, behind them, and some whose words are those of others.
var far = []int{
	math.MinInt, math.MinInt + 1, math.MinInt + 4, math.MinInt + 0x20010000, -1 << 32, -1<<32 + 0x20010000, -0x20010000, -8, -4, -3, -1,
	262144, 0x10000000, 0x20000000, 0x20030000, 0x20050000, 0x20090000, 0x20100004, 0x20110000, 0x20200004, 0x20400000, 0x40000000, 1 << 31,
	1<<32 - 4, 1<<32 - 1, 1 << 32, 1<<32 + 4, 1<<32 + 0x20010000, 1<<32 + 0x20040000, 1<<33 + 0x20080000, 1<<62 + 0x20080000, math.MaxInt - 7, math.MaxInt - 3, math.MaxInt - 1, math.MaxInt,
}

// otherCounts are numbers of bytes that no access has.
var otherCounts = []int{math.MinInt, -1 << 32, -8, -4, -2, -1, 0, 2, 3, 5, 6, 7, 8, 16, 1<<32 + 1, 1<<32 + 4, 1 << 62, math.MaxInt}

// lengths tells how many bytes each region has, by the document's own words.
func lengths(s api.Sizes, flash int) [places]int {
	return [places]int{flash, s.In, s.Out, s.Rail, s.Rail, 4, 4}
}

// bytes tells n bytes, of which neighbours are unlike.
func bytes(n int) string {
	b := make([]byte, n)
	for k := range b {
		b[k] = byte(k*7 + k>>8 + 1)
	}
	return string(b)
}

// made tells a memory, and fails if it is refused.
func made(t *testing.T, s api.Sizes, flash, input string) *Memory {
	t.Helper()
	m, e := New(s, flash, input)
	if e != api.OK || m == nil {
		t.Fatalf("New(%+v, %d bytes, %d bytes): refused: %d", s, len(flash), len(input), e)
	}
	return m
}

// smallOne tells a memory of small sizes.
func smallOne(t *testing.T) *Memory {
	t.Helper()
	return made(t, small, smallFlash, smallInput)
}

// told fails if New does not tell that error, and just then no memory.
func told(t *testing.T, s api.Sizes, flash, input string, want api.Errno) {
	t.Helper()
	m, e := New(s, flash, input)
	if e != want {
		t.Errorf("New(%+v, %d bytes, %d bytes): error %d, want %d", s, len(flash), len(input), e, want)
	}
	if (m == nil) != (e != api.OK) {
		t.Errorf("New(%+v, %d bytes, %d bytes): memory %v beside error %d", s, len(flash), len(input), m != nil, e)
	}
}

// loaded fails if Load does not tell that number and that error.
func loaded(t *testing.T, m *Memory, a, n, want int, err api.Errno) {
	t.Helper()
	if v, e := m.Load(a, n); v != want || e != err {
		t.Errorf("Load(%#x, %d) = %#x, %d, want %#x, %d", a, n, v, e, want, err)
	}
}

// stored fails if Store does not tell that error.
func stored(t *testing.T, m *Memory, a, n, v int, err api.Errno) {
	t.Helper()
	if e := m.Store(a, n, v); e != err {
		t.Errorf("Store(%#x, %d, %#x) = %d, want %d", a, n, v, e, err)
	}
}

// all tells the bytes of all regions.
func all(t *testing.T, m *Memory) [places]string {
	t.Helper()
	var l [places]string
	for k := range l {
		s, e := m.Region(k)
		if e != api.OK {
			t.Fatalf("Region(%d): refused: %d", k, e)
		}
		l[k] = s
	}
	return l
}

// holds fails if a memory's regions are not those.
func holds(t *testing.T, m *Memory, want [places]string) {
	t.Helper()
	for k, s := range all(t, m) {
		if s != want[k] {
			t.Errorf("region %d: %d bytes, %x .., want %d, %x ..", k, len(s), s[:min(len(s), 64)], len(want[k]), want[k][:min(len(want[k]), 64)])
		}
	}
}

// with tells regions of which byte i of region k, and those behind it, are those.
func with(l [places]string, k, i int, b ...byte) [places]string {
	l[k] = l[k][:i] + string(b) + l[k][i+len(b):]
	return l
}

// fresh tells the regions of a new memory, by the document's own words.
func fresh(s api.Sizes, flash, input string) [places]string {
	var l [places]string
	for k, n := range lengths(s, len(flash)) {
		l[k] = strings.Repeat("\x00", n)
	}
	l[0], l[1] = flash, input
	return l
}

// spelledFind tells, by the document's own words, at which byte of which region an access is, or its error.
func spelledFind(s api.Sizes, flash, a, n int, write bool) (region, first int, e api.Errno) {
	if n != 1 && n != 4 {
		return 0, 0, api.ErrArg
	}
	if a%n != 0 {
		return 0, 0, api.ErrAccess
	}
	for k, have := range lengths(s, flash) {
		if have >= n && a >= bases[k] && a <= bases[k]+have-n {
			if k == 0 && write {
				return 0, 0, api.ErrAccess
			}
			return k, a - bases[k], api.OK
		}
	}
	return 0, 0, api.ErrAccess
}

// spelledLoad tells Load's answer of those regions by the document's own words.
func spelledLoad(l [places]string, s api.Sizes, a, n int) (int, api.Errno) {
	k, i, e := spelledFind(s, len(l[0]), a, n, false)
	if e != api.OK {
		return 0, e
	}
	v := 0
	for j := n - 1; j >= 0; j-- {
		v = v*256 + int(l[k][i+j])
	}
	return v, api.OK
}

// spelledStore tells the regions behind a store, and its answer, by the document's own words.
func spelledStore(l [places]string, s api.Sizes, a, n, v int) ([places]string, api.Errno) {
	k, i, e := spelledFind(s, len(l[0]), a, n, true)
	if e != api.OK {
		return l, e
	}
	rest := uint64(v) % (1 << 32)
	for j := range n {
		l = with(l, k, i+j, byte(rest%256))
		rest /= 256
	}
	return l, api.OK
}

// edges tells addresses at and about the first and the last bytes of all regions.
func edges(s api.Sizes, flash int) []int {
	var l []int
	for k, n := range lengths(s, flash) {
		for d := -9; d <= 9; d++ {
			l = append(l, bases[k]+d, bases[k]+n+d)
		}
	}
	return l
}

// The example of the chapter.

func TestExample(t *testing.T) {
	m := made(t, api.Sizes{In: 4, Rail: 4}, "", "abcd")
	loaded(t, m, memmap.In, 4, 0x64636261, api.OK)
	loaded(t, m, memmap.In+3, 1, 0x64, api.OK)
	loaded(t, m, memmap.In+1, 4, 0, api.ErrAccess)
}

// P7.1

func TestSizesThatAreRefused(t *testing.T) {
	for _, x := range []struct {
		s    api.Sizes
		want api.Errno
	}{
		{api.Sizes{}, api.ErrArg}, {api.Sizes{Out: 4}, api.ErrArg}, {api.Sizes{Rail: -4}, api.ErrArg}, {api.Sizes{Rail: 3}, api.ErrArg}, {api.Sizes{Rail: 5}, api.ErrArg},
		{api.Sizes{Out: -4, Rail: 4}, api.ErrArg}, {api.Sizes{Out: 6, Rail: 4}, api.ErrArg}, {api.Sizes{Out: 65537, Rail: 4}, api.ErrArg},
		{api.Sizes{Out: math.MinInt, Rail: 4}, api.ErrArg}, {api.Sizes{Rail: math.MinInt}, api.ErrArg}, {api.Sizes{Rail: math.MaxInt}, api.ErrArg},
		{api.Sizes{Out: 65540, Rail: 4}, api.ErrBig}, {api.Sizes{Rail: 65540}, api.ErrBig}, {api.Sizes{Rail: 1 << 17}, api.ErrBig},
		{api.Sizes{Out: 1 << 32, Rail: 4}, api.ErrBig}, {api.Sizes{Rail: 1<<32 + 4}, api.ErrBig}, {api.Sizes{Rail: math.MaxInt - 3}, api.ErrBig},
		{api.Sizes{Out: 65540, Rail: 3}, api.ErrArg}, {api.Sizes{Out: 3, Rail: 65540}, api.ErrArg}, {api.Sizes{Out: 65540}, api.ErrArg},
		{api.Sizes{Rail: 4}, api.OK}, {api.Sizes{Out: 65536, Rail: 65536}, api.OK},
	} {
		told(t, x.s, "", "", x.want)
		told(t, x.s, smallFlash, "", x.want)
		if e := memmap.Check(x.s, 0); e != x.want {
			t.Errorf("%+v: memmap tells %d, want %d", x.s, e, x.want)
		}
	}
}

// An input may have as many bytes as sizes say that are refused all the same.
func TestSizesOfInput(t *testing.T) {
	for n, want := range map[int]api.Errno{0: api.OK, 4: api.OK, 8: api.OK, 65532: api.OK, 65536: api.OK, 1: api.ErrArg, 2: api.ErrArg, 3: api.ErrArg, 5: api.ErrArg, 65535: api.ErrArg, 65537: api.ErrArg, 65540: api.ErrBig, 131072: api.ErrBig} {
		told(t, api.Sizes{In: n, Rail: 4}, "", bytes(n), want)
	}
	for n, want := range map[int]api.Errno{-1: api.ErrArg, -4: api.ErrArg, math.MinInt: api.ErrArg, math.MaxInt: api.ErrArg, 1 << 32: api.ErrBig, 1<<32 + 4: api.ErrBig, math.MaxInt - 3: api.ErrBig} {
		told(t, api.Sizes{In: n, Rail: 4}, "", "", want)
		told(t, api.Sizes{In: n, Rail: 4}, "", "abcd", want)
	}
}

func TestLengthsOfFlash(t *testing.T) {
	for n, want := range map[int]api.Errno{0: api.OK, 1: api.OK, 2: api.OK, 3: api.OK, 4: api.OK, 64: api.OK, 65537: api.OK, 262143: api.OK, 262144: api.OK, 262145: api.ErrBig, 262148: api.ErrBig, 524288: api.ErrBig} {
		told(t, small, bytes(n), smallInput, want)
		told(t, full, bytes(n), bytes(65536), want)
	}
}

func TestInputUnlikeSizes(t *testing.T) {
	for _, n := range []int{0, 4, 8, 1024, 65532, 65536} {
		s := api.Sizes{In: n, Out: 4, Rail: 4}
		for _, have := range []int{0, 1, 4, n - 4, n - 3, n - 1, n, n + 1, n + 3, n + 4, 2 * n, 65535, 65536, 65537, 65540} {
			want := api.ErrArg
			if have == n {
				want = api.OK
			}
			if have >= 0 {
				told(t, s, smallFlash, bytes(have), want)
			}
		}
	}
}

// Check's errors come first, whatever the input is.
func TestWhichErrorOfSeveral(t *testing.T) {
	for _, input := range []string{"", "a", "abcd", smallInput, bytes(65536), bytes(65540)} {
		told(t, api.Sizes{In: 12, Rail: 65540}, "", input, api.ErrBig)
		told(t, api.Sizes{In: 12, Out: 65540, Rail: 4}, "", input, api.ErrBig)
		told(t, api.Sizes{In: 65544, Rail: 4}, "", input, api.ErrBig)
		told(t, api.Sizes{In: 12, Rail: 4}, bytes(262145), input, api.ErrBig)
		told(t, api.Sizes{In: 12, Rail: 2}, bytes(262145), input, api.ErrArg)
		told(t, api.Sizes{In: 65544, Out: 2, Rail: 4}, "", input, api.ErrArg)
		told(t, api.Sizes{In: 12, Rail: 4}, "", input, api.ErrArg)
	}
}

func TestBytesAtFirst(t *testing.T) {
	for _, x := range []struct {
		s     api.Sizes
		flash string
	}{
		{small, smallFlash}, {small, ""}, {api.Sizes{Rail: 4}, ""}, {api.Sizes{Rail: 4}, "\xff"}, {api.Sizes{In: 4, Rail: 8}, "\xff\xff\xff\xff"},
		{api.Sizes{Out: 4, Rail: 8}, bytes(262143)}, {full, bytes(262144)}, {full, ""},
	} {
		input := strings.Repeat("\xe9", x.s.In)
		m := made(t, x.s, x.flash, input)
		want := fresh(x.s, x.flash, input)
		holds(t, m, want)
		for _, a := range edges(x.s, len(x.flash)) {
			for _, n := range []int{1, 4} {
				v, e := spelledLoad(want, x.s, a, n)
				loaded(t, m, a, n, v, e)
			}
		}
	}
}

// Bytes that are no letters of any text are as good as others.
func TestBytesOfAnyKind(t *testing.T) {
	var b []byte
	for c := range 256 {
		b = append(b, byte(c))
	}
	m := made(t, api.Sizes{In: 256, Rail: 4}, string(b), string(b))
	for c := range 256 {
		loaded(t, m, c, 1, c, api.OK)
		loaded(t, m, memmap.In+c, 1, c, api.OK)
	}
}

// P7.2

func TestLoads(t *testing.T) {
	m := smallOne(t)
	loaded(t, m, 0, 4, 0xf4839201, api.OK)
	loaded(t, m, 0, 1, 0x01, api.OK)
	loaded(t, m, 3, 1, 0xf4, api.OK)
	loaded(t, m, 12, 4, 0xf08f9e0d, api.OK)
	loaded(t, m, 16, 4, 0, api.ErrAccess)
	loaded(t, m, 18, 1, 0x93, api.OK)
	loaded(t, m, 19, 1, 0, api.ErrAccess)
	loaded(t, m, 20, 4, 0, api.ErrAccess)
	loaded(t, m, memmap.In, 4, 0xff636261, api.OK)
	loaded(t, m, memmap.In+4, 4, 0x80676665, api.OK)
	loaded(t, m, memmap.In+7, 1, 0x80, api.OK)
	loaded(t, m, memmap.In+8, 1, 0, api.ErrAccess)
	loaded(t, m, memmap.In+8, 4, 0, api.ErrAccess)
	loaded(t, m, memmap.In-1, 1, 0, api.ErrAccess)
	loaded(t, m, memmap.In-4, 4, 0, api.ErrAccess)
	holds(t, m, fresh(small, smallFlash, smallInput))
}

func TestStores(t *testing.T) {
	m := smallOne(t)
	l := fresh(small, smallFlash, smallInput)
	for _, x := range []struct {
		a, n, v int
		k, i    int
		b       []byte
	}{
		{memmap.In, 4, 0x01020304, 1, 0, []byte{4, 3, 2, 1}},
		{memmap.In + 7, 1, 0x01020304, 1, 7, []byte{4}},
		{memmap.Out, 1, 255, 2, 0, []byte{255}},
		{memmap.Out + 12, 4, 1<<32 - 1, 2, 12, []byte{255, 255, 255, 255}},
		{memmap.A + 8, 4, 0x80000001, 3, 8, []byte{1, 0, 0, 0x80}},
		{memmap.A + 8, 4, 0, 3, 8, []byte{0, 0, 0, 0}},
		{memmap.A + 11, 1, 0x7f, 3, 11, []byte{0x7f}},
		{memmap.B, 4, 0x0badf00d, 4, 0, []byte{0x0d, 0xf0, 0xad, 0x0b}},
		{memmap.B + 1, 1, 0, 4, 1, []byte{0}},
		{memmap.Commit, 4, memmap.Magic, 5, 0, []byte{0x0d, 0x60, 0xde, 0xc0}},
		{memmap.Status, 4, memmap.Aborted, 6, 0, []byte{0xad, 0x0b, 0xad, 0x0b}},
		{memmap.Status + 3, 1, 0x55, 6, 3, []byte{0x55}},
	} {
		stored(t, m, x.a, x.n, x.v, api.OK)
		l = with(l, x.k, x.i, x.b...)
		holds(t, m, l)
	}
}

// Each byte, and each word, of each region that may be written is stored alone: nothing else changes, there or elsewhere.
func TestEachPlaceAlone(t *testing.T) {
	first := fresh(small, smallFlash, smallInput)
	for k, have := range lengths(small, len(smallFlash)) {
		for i := range have {
			m := smallOne(t)
			if k == 0 {
				stored(t, m, i, 1, 0x5a, api.ErrAccess)
				stored(t, m, i, 4, 0x5a5b5c5d, api.ErrAccess)
				holds(t, m, first)
				continue
			}
			stored(t, m, bases[k]+i, 1, 0x5a, api.OK)
			holds(t, m, with(first, k, i, 0x5a))
			if i%4 != 0 {
				stored(t, m, bases[k]+i, 4, 0x5a5b5c5d, api.ErrAccess)
				holds(t, m, with(first, k, i, 0x5a))
				continue
			}
			stored(t, m, bases[k]+i, 4, 0x5a5b5c5d, api.OK)
			holds(t, m, with(first, k, i, 0x5d, 0x5c, 0x5b, 0x5a))
		}
	}
}

func TestEdgesOfRegions(t *testing.T) {
	for _, s := range []api.Sizes{small, {Rail: 4}, {In: 4, Rail: 4}, {Out: 4, Rail: 8}, {In: 64, Out: 32, Rail: 128}} {
		input := bytes(s.In)
		for _, flash := range []string{"", "\x01", smallFlash, bytes(64)} {
			l := fresh(s, flash, input)
			m := made(t, s, flash, input)
			for _, a := range edges(s, len(flash)) {
				for _, n := range []int{1, 4} {
					v, e := spelledLoad(l, s, a, n)
					loaded(t, m, a, n, v, e)
					l, e = spelledStore(l, s, a, n, a*0x01030507+n)
					stored(t, m, a, n, a*0x01030507+n, e)
					v, e = spelledLoad(l, s, a, n)
					loaded(t, m, a, n, v, e)
				}
			}
			holds(t, m, l)
		}
	}
}

// The greatest memory has all of its bytes, up to the last ones.
func TestEdgesOfTheGreatest(t *testing.T) {
	flash, input := bytes(262144), bytes(65536)
	m := made(t, full, flash, input)
	l := fresh(full, flash, input)
	loaded(t, m, 262140, 4, int(flash[262143])<<24|int(flash[262142])<<16|int(flash[262141])<<8|int(flash[262140]), api.OK)
	loaded(t, m, 262143, 1, int(flash[262143]), api.OK)
	for k := 1; k <= 4; k++ {
		// Just behind the greatest input stands the output; behind the other ones nothing does.
		if k > 1 {
			loaded(t, m, bases[k]+65536, 1, 0, api.ErrAccess)
			stored(t, m, bases[k]+65536, 4, 7, api.ErrAccess)
		}
		stored(t, m, bases[k]+65532, 4, 0x01020304*k, api.OK)
		l = with(l, k, 65532, byte(4*k), byte(3*k), byte(2*k), byte(k))
		stored(t, m, bases[k], 1, 0x10*k, api.OK)
		l = with(l, k, 0, byte(0x10*k))
	}
	stored(t, m, memmap.In+65536, 4, 0x0a0b0c0d, api.OK)
	holds(t, m, with(l, 2, 0, 0x0d, 0x0c, 0x0b, 0x0a))
}

func TestOtherNumbersOfBytes(t *testing.T) {
	m := smallOne(t)
	for _, n := range otherCounts {
		for _, a := range slices.Concat(far, edges(small, len(smallFlash))) {
			loaded(t, m, a, n, 0, api.ErrArg)
			stored(t, m, a, n, 0x77777777, api.ErrArg)
		}
	}
	holds(t, m, fresh(small, smallFlash, smallInput))
}

func TestFarAddresses(t *testing.T) {
	for _, s := range []api.Sizes{small, full} {
		input := bytes(s.In)
		m := made(t, s, bytes(262144), input)
		for _, a := range far {
			for _, n := range []int{1, 4} {
				loaded(t, m, a, n, 0, api.ErrAccess)
				stored(t, m, a, n, 0x77777777, api.ErrAccess)
			}
		}
		holds(t, m, fresh(s, bytes(262144), input))
	}
}

func TestNoMultiples(t *testing.T) {
	m := smallOne(t)
	for k := range places {
		for d := 1; d <= 11; d++ {
			if d%4 != 0 {
				loaded(t, m, bases[k]+d, 4, 0, api.ErrAccess)
				stored(t, m, bases[k]+d, 4, -1, api.ErrAccess)
			}
		}
	}
	holds(t, m, fresh(small, smallFlash, smallInput))
}

func TestRegionsOfNoBytes(t *testing.T) {
	m := made(t, api.Sizes{Rail: 4}, "", "")
	for _, k := range []int{0, 1, 2} {
		for _, n := range []int{1, 4} {
			loaded(t, m, bases[k], n, 0, api.ErrAccess)
			stored(t, m, bases[k], n, 1, api.ErrAccess)
		}
	}
	holds(t, m, fresh(api.Sizes{Rail: 4}, "", ""))
}

// Of a value that is no word its word is stored, and of that the lowest bytes.
func TestValuesThatAreNoWords(t *testing.T) {
	for v, want := range map[int]int{
		-1: 0xffffffff, -2: 0xfffffffe, -256: 0xffffff00, -257: 0xfffffeff, -1 << 31: 0x80000000, -1<<32 + 5: 5, -1 << 32: 0,
		1<<32 - 1: 0xffffffff, 1 << 32: 0, 1<<32 + 0x01020304: 0x01020304, 0x107: 0x107, 256: 256, 1 << 40: 0, 1<<40 - 1: 0xffffffff,
		math.MinInt: 0, math.MinInt + 1: 1, math.MaxInt: 0xffffffff, math.MaxInt - 1: 0xfffffffe, 0: 0, 1 << 31: 1 << 31, 1<<31 - 1: 1<<31 - 1,
	} {
		m := smallOne(t)
		stored(t, m, memmap.A+4, 4, v, api.OK)
		loaded(t, m, memmap.A+4, 4, want, api.OK)
		stored(t, m, memmap.B+4, 4, 0x11121314, api.OK)
		stored(t, m, memmap.B+5, 1, v, api.OK)
		loaded(t, m, memmap.B+5, 1, want%256, api.OK)
		loaded(t, m, memmap.B+4, 4, 0x11120014+want%256*256, api.OK)
	}
}

func TestBytesAndWords(t *testing.T) {
	m := smallOne(t)
	for k := 1; k < places; k++ {
		for i, c := range []int{0xd1, 0xc2, 0xb3, 0xa4} {
			stored(t, m, bases[k]+i, 1, c, api.OK)
		}
		loaded(t, m, bases[k], 4, 0xa4b3c2d1, api.OK)
		stored(t, m, bases[k], 4, 0x98a7b6c5, api.OK)
		for i, c := range []int{0xc5, 0xb6, 0xa7, 0x98} {
			loaded(t, m, bases[k]+i, 1, c, api.OK)
		}
	}
}

// A load changes nothing, neither does whatever is refused, nor Region.
func TestNothingElseChanges(t *testing.T) {
	m := smallOne(t)
	stored(t, m, memmap.Out+4, 4, 0x31323334, api.OK)
	stored(t, m, memmap.Commit, 4, memmap.Magic, api.OK)
	before := all(t, m)
	for _, a := range slices.Concat(far, edges(small, len(smallFlash))) {
		for _, n := range append([]int{1, 4}, otherCounts...) {
			m.Load(a, n)
			if _, _, e := spelledFind(small, len(smallFlash), a, n, true); e != api.OK {
				m.Store(a, n, 0x66666666)
			}
		}
		m.Region(a)
		holds(t, m, before)
	}
}

// A long row of accesses, near the regions and far from them, is held against the document's words.
func TestHeldAgainstWords(t *testing.T) {
	addresses := slices.Concat(far, edges(small, len(smallFlash)))
	counts := []int{1, 4, 1, 4, 1, 4, 2}
	l := fresh(small, smallFlash, smallInput)
	m := smallOne(t)
	seed := uint64(7)
	next := func(n int) int {
		seed = seed*6364136223846793005 + 1442695040888963407
		return int(seed>>33) % n
	}
	for step := range 40000 {
		a, n := addresses[next(len(addresses))], counts[next(len(counts))]
		if next(3) == 0 {
			v, e := spelledLoad(l, small, a, n)
			loaded(t, m, a, n, v, e)
			continue
		}
		v := next(1<<31)<<32 | next(1<<31)
		if next(2) == 0 {
			v = -v
		}
		var e api.Errno
		l, e = spelledStore(l, small, a, n, v)
		stored(t, m, a, n, v, e)
		if step%64 == 0 {
			holds(t, m, l)
		}
	}
	holds(t, m, l)
}

// What was handed in, and what was told, stays as it was.
func TestStringsStay(t *testing.T) {
	flash, input := strings.Clone(smallFlash), strings.Clone(smallInput)
	m := made(t, small, flash, input)
	early := all(t, m)
	for k := 1; k < places; k++ {
		for i := range lengths(small, len(flash))[k] {
			stored(t, m, bases[k]+i, 1, 0xee, api.OK)
		}
	}
	if flash != smallFlash || input != smallInput {
		t.Errorf("flash %x, input %x", flash, input)
	}
	if early != fresh(small, smallFlash, smallInput) {
		t.Errorf("what was told is other now: %x", early)
	}
	holds(t, m, [places]string{smallFlash, strings.Repeat("\xee", 8), strings.Repeat("\xee", 16), strings.Repeat("\xee", 12), strings.Repeat("\xee", 12), "\xee\xee\xee\xee", "\xee\xee\xee\xee"})
}

func TestTwoMemories(t *testing.T) {
	first, second := smallOne(t), smallOne(t)
	for k := 1; k < places; k++ {
		for i := range lengths(small, len(smallFlash))[k] {
			stored(t, first, bases[k]+i, 1, 0xdd, api.OK)
		}
	}
	holds(t, second, fresh(small, smallFlash, smallInput))
	holds(t, smallOne(t), fresh(small, smallFlash, smallInput))
	changed := all(t, first)
	stored(t, second, memmap.In, 4, 1, api.OK)
	stored(t, second, memmap.A, 4, 2, api.OK)
	stored(t, second, memmap.Status, 4, 3, api.OK)
	holds(t, first, changed)
}

// P7.3

func TestRegionsOfTheList(t *testing.T) {
	m := smallOne(t)
	for k, n := range lengths(small, len(smallFlash)) {
		for i := 0; k > 0 && i < n; i += 4 {
			stored(t, m, bases[k]+i, 4, 0x01010101*(16*k+i/4), api.OK)
		}
		s, e := m.Region(k)
		if len(s) != n || e != api.OK {
			t.Errorf("Region(%d): %d bytes, error %d, want %d", k, len(s), e, n)
		}
		for i := 0; k > 0 && i < n; i++ {
			if int(s[i]) != 16*k+i/4 {
				t.Errorf("Region(%d): byte %d is %#x", k, i, s[i])
			}
		}
	}
	if s, e := m.Region(0); s != smallFlash || e != api.OK {
		t.Errorf("the flash: %x, %d", s, e)
	}
}

func TestNoRegion(t *testing.T) {
	for _, m := range []*Memory{smallOne(t), made(t, api.Sizes{Rail: 4}, "", "")} {
		for _, k := range []int{math.MinInt, -1 << 32, -7, -2, -1, 7, 8, 100, memmap.In, 1 << 32, 1<<32 + 1, math.MaxInt - 1, math.MaxInt} {
			if s, e := m.Region(k); s != "" || e != api.ErrArg {
				t.Errorf("Region(%d) = %x, %d, want none, %d", k, s, e, api.ErrArg)
			}
		}
	}
}

// P7.2, P7.3: of no memory

func TestNoMemory(t *testing.T) {
	var none *Memory
	for _, a := range slices.Concat(far, edges(small, len(smallFlash))) {
		for _, n := range append([]int{1, 4}, otherCounts...) {
			loaded(t, none, a, n, 0, api.ErrNil)
			stored(t, none, a, n, a, api.ErrNil)
		}
	}
	for _, k := range []int{math.MinInt, -1, 0, 1, 6, 7, math.MaxInt} {
		if s, e := none.Region(k); s != "" || e != api.ErrNil {
			t.Errorf("Region(%d) of none = %x, %d, want none, %d", k, s, e, api.ErrNil)
		}
	}
}
