package memmap

import (
	"math"
	"math/big"
	"slices"
	"testing"

	"hauberk/api"
)

// full are the greatest sizes.
var full = api.Sizes{In: 65536, Out: 65536, Rail: 65536}

// all tells the regions, and fails if they are refused.
func all(t *testing.T, s api.Sizes, flash int) []api.Region {
	t.Helper()
	l, e := Regions(s, flash)
	if e != api.OK {
		t.Fatalf("%v, flash %d: refused: %d", s, flash, e)
	}
	return l
}

// set tells sizes of which one (0 In, 1 Out, 2 Rail) is n.
func set(s api.Sizes, which, n int) api.Sizes {
	*[]*int{&s.In, &s.Out, &s.Rail}[which] = n
	return s
}

// told fails if Check, or Regions, does not tell that error, Regions with no region beside it.
func told(t *testing.T, s api.Sizes, flash int, want api.Errno) {
	t.Helper()
	if e := Check(s, flash); e != want {
		t.Errorf("Check(%+v, %d) = %d, want %d", s, flash, e, want)
	}
	l, e := Regions(s, flash)
	if e != want {
		t.Errorf("Regions(%+v, %d): error %d, want %d", s, flash, e, want)
	}
	if e != api.OK && len(l) != 0 {
		t.Errorf("Regions(%+v, %d): %v beside error %d", s, flash, l, e)
	}
}

// asked fails if an access does not find that region, or that error with 0 beside it.
func asked(t *testing.T, l []api.Region, a, n int, write bool, at int, want api.Errno) {
	t.Helper()
	if got, e := Find(l, a, n, write); got != at || e != want {
		t.Errorf("Find(%v, %#x, %d, %v) = %d, %d, want %d, %d", l, a, n, write, got, e, at, want)
	}
}

// The constants of the chapter's head.

func TestConstants(t *testing.T) {
	got := []int{In, Out, A, B, Commit, Status, Flash, Most, Magic, Aborted}
	want := []int{0x20010000, 0x20020000, 0x20040000, 0x20080000, 0x20100000, 0x20200000, 262144, 65536, 0xc0de600d, 0x0bad0bad}
	if !slices.Equal(got, want) {
		t.Errorf("%#x, want %#x", got, want)
	}
}

// P5.1

func TestEachSize(t *testing.T) {
	for which := range 3 {
		for _, x := range []struct {
			n    int
			want api.Errno
		}{
			{4, api.OK}, {8, api.OK}, {12, api.OK}, {65532, api.OK}, {65536, api.OK},
			{1, api.ErrArg}, {2, api.ErrArg}, {3, api.ErrArg}, {5, api.ErrArg}, {6, api.ErrArg}, {7, api.ErrArg},
			{65533, api.ErrArg}, {65534, api.ErrArg}, {65535, api.ErrArg},
			{-1, api.ErrArg}, {-2, api.ErrArg}, {-3, api.ErrArg}, {-4, api.ErrArg}, {-8, api.ErrArg}, {-65536, api.ErrArg},
			{math.MinInt, api.ErrArg}, {math.MinInt + 4, api.ErrArg}, {math.MinInt + 1, api.ErrArg},
			{65540, api.ErrBig}, {65544, api.ErrBig}, {131072, api.ErrBig}, {262144, api.ErrBig}, {1 << 32, api.ErrBig}, {1<<32 + 4, api.ErrBig}, {math.MaxInt - 3, api.ErrBig},
			{65537, api.ErrArg}, {65538, api.ErrArg}, {65539, api.ErrArg}, {math.MaxInt, api.ErrArg}, {math.MaxInt - 1, api.ErrArg},
		} {
			told(t, set(api.Sizes{In: 4, Out: 4, Rail: 4}, which, x.n), 0, x.want)
			told(t, set(full, which, x.n), 262144, x.want)
		}
	}
}

func TestSizesOfNought(t *testing.T) {
	told(t, api.Sizes{Rail: 4}, 0, api.OK)
	told(t, api.Sizes{In: 4, Rail: 4}, 0, api.OK)
	told(t, api.Sizes{Out: 4, Rail: 4}, 0, api.OK)
	told(t, api.Sizes{}, 0, api.ErrArg)
	told(t, api.Sizes{In: 65536, Out: 65536}, 262144, api.ErrArg)
}

func TestEachFlash(t *testing.T) {
	for _, x := range []struct {
		n    int
		want api.Errno
	}{
		{0, api.OK}, {1, api.OK}, {2, api.OK}, {3, api.OK}, {4, api.OK}, {65537, api.OK}, {262141, api.OK}, {262143, api.OK}, {262144, api.OK},
		{-1, api.ErrArg}, {-3, api.ErrArg}, {-4, api.ErrArg}, {-262144, api.ErrArg}, {math.MinInt, api.ErrArg},
		{262145, api.ErrBig}, {262146, api.ErrBig}, {262148, api.ErrBig}, {1 << 32, api.ErrBig}, {math.MaxInt, api.ErrBig},
	} {
		told(t, api.Sizes{Rail: 4}, x.n, x.want)
		told(t, full, x.n, x.want)
	}
}

func TestWhichErrorOfSeveral(t *testing.T) {
	for _, x := range []struct {
		s     api.Sizes
		flash int
	}{
		{api.Sizes{In: 65540, Rail: 3}, 0}, {api.Sizes{In: 65540, Rail: 0}, 0}, {api.Sizes{In: 65540, Out: -4, Rail: 4}, 0},
		{api.Sizes{In: 65540, Out: 2, Rail: 4}, 0}, {api.Sizes{In: 2, Out: 65540, Rail: 4}, 0}, {api.Sizes{In: -4, Rail: 65540}, 0},
		{api.Sizes{Out: 65540, Rail: -4}, 0}, {api.Sizes{Out: 1, Rail: 65540}, 0}, {api.Sizes{In: 65540, Rail: 4}, -1},
		{api.Sizes{Out: 65540, Rail: 4}, -1}, {api.Sizes{Rail: 65540}, -1}, {api.Sizes{Rail: 0}, 262145},
		{api.Sizes{In: 1, Rail: 4}, 262145}, {api.Sizes{Out: -4, Rail: 4}, 262145}, {api.Sizes{Rail: 6}, math.MaxInt},
	} {
		told(t, x.s, x.flash, api.ErrArg)
	}
	told(t, api.Sizes{In: 65540, Out: 65540, Rail: 65540}, 262145, api.ErrBig)
}

// spelled tells Check's answer by the document's own words.
func spelled(s api.Sizes, flash int) api.Errno {
	wrong, big := flash < 0 || s.Rail < 4, flash > 262144
	for _, n := range []int{s.In, s.Out, s.Rail} {
		wrong = wrong || n < 0 || n != n/4*4
		big = big || n > 65536
	}
	if wrong {
		return api.ErrArg
	}
	if big {
		return api.ErrBig
	}
	return api.OK
}

func TestSizesTogether(t *testing.T) {
	some := []int{math.MinInt, -65536, -4, -1, 0, 1, 4, 6, 8, 65532, 65535, 65536, 65537, 65540, math.MaxInt - 3, math.MaxInt}
	flashes := []int{math.MinInt, -4, -1, 0, 1, 64, 262143, 262144, 262145, math.MaxInt}
	for _, in := range some {
		for _, out := range some {
			for _, rail := range some {
				for _, flash := range flashes {
					s := api.Sizes{In: in, Out: out, Rail: rail}
					told(t, s, flash, spelled(s, flash))
				}
			}
		}
	}
}

func TestRegions(t *testing.T) {
	for _, x := range []struct {
		s     api.Sizes
		flash int
	}{
		{api.Sizes{In: 8, Out: 16, Rail: 12}, 64}, {api.Sizes{Rail: 4}, 0}, {api.Sizes{In: 4, Rail: 8}, 1}, {api.Sizes{Out: 4, Rail: 8}, 3}, {full, 262144},
	} {
		want := []api.Region{
			{Base: 0, Len: x.flash, Write: false},
			{Base: 0x20010000, Len: x.s.In, Write: true},
			{Base: 0x20020000, Len: x.s.Out, Write: true},
			{Base: 0x20040000, Len: x.s.Rail, Write: true},
			{Base: 0x20080000, Len: x.s.Rail, Write: true},
			{Base: 0x20100000, Len: 4, Write: true},
			{Base: 0x20200000, Len: 4, Write: true},
		}
		if l := all(t, x.s, x.flash); !slices.Equal(l, want) {
			t.Errorf("%+v, flash %d: %v, want %v", x.s, x.flash, l, want)
		}
	}
}

func TestRegionsAreNew(t *testing.T) {
	first := all(t, full, 262144)
	want := slices.Clone(first)
	for k := range first {
		first[k] = api.Region{Base: -1, Len: -1}
	}
	if l := all(t, full, 262144); !slices.Equal(l, want) {
		t.Errorf("%v, want %v", l, want)
	}
}

func TestRail(t *testing.T) {
	for k, want := range map[int]int{0: 0x20040000, 1: 0x20080000, 2: 0, 3: 0, -1: 0, -2: 0, 1 << 32: 0, 1<<32 + 1: 0, math.MaxInt: 0, math.MinInt: 0, math.MinInt + 1: 0} {
		if got := Rail(k); got != want {
			t.Errorf("Rail(%d) = %#x, want %#x", k, got, want)
		}
	}
}

// P5.2

func TestEdgesOfRegions(t *testing.T) {
	for _, s := range []api.Sizes{{In: 4, Out: 8, Rail: 12}, {In: 65532, Out: 65536, Rail: 65536}} {
		l := all(t, s, 64)
		for k, r := range l {
			end := r.Base + r.Len
			for _, a := range []int{r.Base, end - 1} {
				asked(t, l, a, 1, false, k, api.OK)
			}
			for _, a := range []int{r.Base, end - 4} {
				asked(t, l, a, 4, false, k, api.OK)
			}
			for _, a := range []int{r.Base - 1, end} {
				asked(t, l, a, 1, false, 0, api.ErrAccess)
				asked(t, l, a, 1, true, 0, api.ErrAccess)
			}
			for _, a := range []int{r.Base - 4, r.Base - 1, r.Base + 1, r.Base + 2, r.Base + 3, end - 3, end - 2, end - 1, end} {
				asked(t, l, a, 4, false, 0, api.ErrAccess)
				asked(t, l, a, 4, true, 0, api.ErrAccess)
			}
		}
	}
}

// With the greatest input the output begins where the input ends; a word there is still of one of them alone.
func TestInputUpToTheOutput(t *testing.T) {
	l := all(t, full, 262144)
	asked(t, l, Out-1, 1, true, 1, api.OK)
	asked(t, l, Out, 1, true, 2, api.OK)
	asked(t, l, Out-4, 4, true, 1, api.OK)
	asked(t, l, Out, 4, true, 2, api.OK)
	asked(t, l, Out-2, 4, true, 0, api.ErrAccess)
}

func TestWrites(t *testing.T) {
	l := all(t, api.Sizes{In: 4, Out: 8, Rail: 12}, 64)
	for _, a := range []int{0, 4, 60} {
		asked(t, l, a, 4, true, 0, api.ErrAccess)
		asked(t, l, a+3, 1, true, 0, api.ErrAccess)
	}
	for k, r := range l[1:] {
		asked(t, l, r.Base, 1, true, k+1, api.OK)
		asked(t, l, r.Base+r.Len-1, 1, true, k+1, api.OK)
		asked(t, l, r.Base, 4, true, k+1, api.OK)
		asked(t, l, r.Base+r.Len-4, 4, true, k+1, api.OK)
	}
}

func TestRegionsOfNoBytes(t *testing.T) {
	l := all(t, api.Sizes{Rail: 4}, 0)
	for _, a := range []int{0, In, Out} {
		asked(t, l, a, 1, false, 0, api.ErrAccess)
		asked(t, l, a, 4, false, 0, api.ErrAccess)
		asked(t, l, a, 4, true, 0, api.ErrAccess)
	}
}

func TestFlashOfNoWholeWords(t *testing.T) {
	l := all(t, api.Sizes{Rail: 4}, 7)
	asked(t, l, 6, 1, false, 0, api.OK)
	asked(t, l, 7, 1, false, 0, api.ErrAccess)
	asked(t, l, 0, 4, false, 0, api.OK)
	asked(t, l, 4, 4, false, 0, api.ErrAccess)
}

func TestNumberOfBytes(t *testing.T) {
	l := all(t, full, 262144)
	for _, n := range []int{math.MinInt, -8, -4, -2, -1, 0, 2, 3, 5, 8, 16, 1<<32 + 1, 1<<32 + 4, math.MaxInt} {
		for _, a := range []int{0, 3, In, In + 1, In + 2, 0x30000000, -1, math.MinInt, math.MaxInt} {
			asked(t, l, a, n, false, 0, api.ErrArg)
			asked(t, l, a, n, true, 0, api.ErrArg)
			asked(t, nil, a, n, true, 0, api.ErrArg)
		}
	}
}

func TestNoMultiple(t *testing.T) {
	l := all(t, full, 262144)
	for k, r := range l {
		for _, a := range []int{r.Base, r.Base + r.Len/2/4*4} {
			asked(t, l, a, 4, false, k, api.OK)
			for by := 1; by < 4; by++ {
				asked(t, l, a+by, 4, false, 0, api.ErrAccess)
				asked(t, l, a+by, 1, false, k, api.OK)
			}
		}
	}
	below := []api.Region{{Base: -8, Len: 16, Write: true}}
	asked(t, below, -4, 4, true, 0, api.OK)
	for _, a := range []int{-3, -2, -1, -5, -6, -7} {
		asked(t, below, a, 4, true, 0, api.ErrAccess)
		asked(t, below, a, 1, true, 0, api.OK)
	}
}

func TestFirstRegionIsAsked(t *testing.T) {
	read, both := api.Region{Base: 8, Len: 8}, api.Region{Base: 0, Len: 16, Write: true}
	asked(t, []api.Region{read, both}, 8, 4, true, 0, api.ErrAccess)
	asked(t, []api.Region{read, both}, 8, 4, false, 0, api.OK)
	asked(t, []api.Region{read, both}, 4, 4, true, 1, api.OK)
	asked(t, []api.Region{both, read}, 8, 4, true, 0, api.OK)
	asked(t, []api.Region{both, both, both}, 12, 4, true, 0, api.OK)
	small := api.Region{Base: 8, Len: 3}
	asked(t, []api.Region{small, both}, 8, 4, true, 1, api.OK)
	asked(t, []api.Region{small, both}, 8, 1, true, 0, api.ErrAccess)
}

func TestHalvesAreNotJoined(t *testing.T) {
	l := []api.Region{{Base: 0, Len: 2, Write: true}, {Base: 2, Len: 2, Write: true}}
	asked(t, l, 0, 4, false, 0, api.ErrAccess)
	asked(t, l, 2, 1, false, 1, api.OK)
}

func TestOtherLists(t *testing.T) {
	for _, l := range [][]api.Region{nil, {}, {{}}, {{Base: 0, Len: -4, Write: true}}, {{Base: 4, Len: -4, Write: true}}, {{Base: 8, Len: math.MinInt, Write: true}}, {{Base: math.MinInt, Len: math.MaxInt}}, {{Base: 1, Len: 3}}} {
		asked(t, l, 0, 1, false, 0, api.ErrAccess)
		asked(t, l, 0, 4, false, 0, api.ErrAccess)
		asked(t, l, 0, 4, true, 0, api.ErrAccess)
	}
	asked(t, []api.Region{{Base: 3, Len: 6}}, 4, 4, false, 0, api.OK)
	asked(t, []api.Region{{Base: 3, Len: 4}}, 4, 4, false, 0, api.ErrAccess)
	asked(t, []api.Region{{}, {}, {Base: 4, Len: 4}}, 4, 4, false, 2, api.OK)
}

func TestAddressesAreNoWords(t *testing.T) {
	l := all(t, full, 262144)
	for _, r := range l {
		for _, by := range []int{1 << 32, -1 << 32, 1 << 33, math.MinInt} {
			asked(t, l, r.Base+by, 4, false, 0, api.ErrAccess)
			asked(t, l, r.Base+by, 1, false, 0, api.ErrAccess)
		}
	}
	for _, a := range []int{math.MinInt, math.MinInt + 4, -1, -4, 1 << 32, math.MaxInt, math.MaxInt - 3} {
		asked(t, l, a, 1, false, 0, api.ErrAccess)
		asked(t, l, a, 4, true, 0, api.ErrAccess)
	}
}

// spelledFind tells Find's answer by the document's own words, by way of numbers that never wrap.
func spelledFind(l []api.Region, a, n int, write bool) (int, api.Errno) {
	if n != 1 && n != 4 {
		return 0, api.ErrArg
	}
	if new(big.Int).Mod(big.NewInt(int64(a)), big.NewInt(int64(n))).Sign() != 0 {
		return 0, api.ErrAccess
	}
	for k, r := range l {
		if holds(r, big.NewInt(int64(a)), n) {
			if write && !r.Write {
				return 0, api.ErrAccess
			}
			return k, api.OK
		}
	}
	return 0, api.ErrAccess
}

// holds tells whether a region has each of n bytes from a on.
func holds(r api.Region, a *big.Int, n int) bool {
	base := big.NewInt(int64(r.Base))
	end := new(big.Int).Add(base, big.NewInt(int64(r.Len)))
	for k := range n {
		b := new(big.Int).Add(a, big.NewInt(int64(k)))
		if b.Cmp(base) < 0 || b.Cmp(end) >= 0 {
			return false
		}
	}
	return true
}

func TestFarNumbers(t *testing.T) {
	far := []int{math.MinInt, math.MinInt + 1, math.MinInt + 4, -1 << 32, -8, -4, -1, 0, 1, 3, 4, 5, 8, 1 << 32, 1<<63 - 8, math.MaxInt - 4, math.MaxInt - 3, math.MaxInt - 1, math.MaxInt}
	for _, base := range far {
		for _, n := range far {
			for _, write := range []bool{false, true} {
				l := []api.Region{{Base: base, Len: n, Write: write}}
				for _, a := range far {
					for _, size := range []int{1, 4} {
						at, e := spelledFind(l, a, size, true)
						asked(t, l, a, size, true, at, e)
						at, e = spelledFind(l, a, size, false)
						asked(t, l, a, size, false, at, e)
					}
				}
			}
		}
	}
}

func TestSmallLists(t *testing.T) {
	var some []api.Region
	for base := -2; base <= 5; base++ {
		for _, n := range []int{-1, 0, 1, 4, 5, 8} {
			some = append(some, api.Region{Base: base, Len: n}, api.Region{Base: base, Len: n, Write: true})
		}
	}
	for _, r := range some {
		for _, s := range some {
			l := []api.Region{r, s}
			for _, a := range []int{-4, 0, 1, 4, 8} {
				for _, n := range []int{1, 4} {
					at, e := spelledFind(l, a, n, true)
					asked(t, l, a, n, true, at, e)
				}
			}
		}
	}
}

func TestListIsNotChanged(t *testing.T) {
	l := all(t, full, 262144)
	want := slices.Clone(l)
	short := l[:3]
	asked(t, short, A, 4, true, 0, api.ErrAccess)
	asked(t, short, Out, 4, true, 2, api.OK)
	asked(t, short, 0, 4, true, 0, api.ErrAccess)
	if !slices.Equal(l, want) {
		t.Errorf("%v, want %v", l, want)
	}
}

// P5.3

// ownersOf tells which regions have an address.
func ownersOf(l []api.Region, a int) []int {
	var ks []int
	for k, r := range l {
		if a >= r.Base && a < r.Base+r.Len {
			ks = append(ks, k)
		}
	}
	return ks
}

func TestOneBitLeadsToNoOtherRegion(t *testing.T) {
	l := all(t, full, 262144)
	for k, r := range l[1:] {
		k++
		for a := r.Base; a < r.Base+r.Len; a++ {
			if at, e := Find(l, a, 1, true); at != k || e != api.OK {
				t.Fatalf("%#x is of %d, error %d, not of %d", a, at, e, k)
			}
			for bit := range 32 {
				b := a ^ 1<<bit
				if at, e := Find(l, b, 1, true); e == api.OK && at != k || e != api.OK && (at != 0 || e != api.ErrAccess) {
					t.Fatalf("%#x of region %d, with bit %d turned, is of region %d, error %d", a, k, bit, at, e)
				}
			}
		}
	}
}

func TestOneBitByTheRegionsAlone(t *testing.T) {
	l := all(t, full, 262144)
	for k, r := range l[1:] {
		for _, a := range []int{r.Base, r.Base + 1, r.Base + r.Len/2, r.Base + r.Len - 1} {
			for bit := range 32 {
				for _, other := range ownersOf(l, a^1<<bit) {
					if other != k+1 && l[other].Write {
						t.Errorf("%#x of region %d, with bit %d turned, is of region %d", a, k+1, bit, other)
					}
				}
			}
		}
	}
}

func TestRegionsDoNotMeet(t *testing.T) {
	l := all(t, full, 262144)
	for k, r := range l {
		for j, s := range l {
			if j != k && r.Base < s.Base+s.Len && s.Base < r.Base+r.Len {
				t.Errorf("region %d, %v, meets region %d, %v", k, r, j, s)
			}
		}
	}
}
