package image

import (
	"encoding/binary"
	"math"
	"strings"
	"testing"

	"hauberk/api"
	"hauberk/memmap"
)

// plain is a head that may be with 68 bytes of image or more, each of its numbers unlike the other ones.
var plain = Head{Reset: 64, Handler: 66, Sizes: api.Sizes{In: 8, Out: 4, Rail: 12}, Mode: 2}

// loops are two branches to themselves.
const loops = "\xfe\xe7\xfe\xe7"

// far are numbers that lie about the edges, and some whose words are those of smaller ones.
var far = []int{math.MinInt, math.MinInt + 64, -1 << 32, -64, -2, -1, 0, 1, 2, 62, 63, 64, 65, 66, 1 << 31, 1<<32 - 2, 1 << 32, 1<<32 + 2, 1<<32 + 64, 1<<32 + 66, math.MaxInt - 1, math.MaxInt}

// built tells an image, and fails if it is refused.
func built(t *testing.T, h Head, code string) string {
	t.Helper()
	s, e := Build(h, code)
	if e != api.OK {
		t.Fatalf("Build(%+v, %d bytes): refused: %d", h, len(code), e)
	}
	return s
}

// told fails if Build does not tell that error, with no image beside it.
func told(t *testing.T, h Head, code string, want api.Errno) {
	t.Helper()
	s, e := Build(h, code)
	if e != want {
		t.Errorf("Build(%+v, %d bytes): error %d, want %d", h, len(code), e, want)
	}
	if e != api.OK && s != "" {
		t.Errorf("Build(%+v, %d bytes): %d bytes beside error %d", h, len(code), len(s), e)
	}
}

// parsed fails if Parse does not tell that head and that error.
func parsed(t *testing.T, s string, h Head, want api.Errno) {
	t.Helper()
	if got, e := Parse(s); got != h || e != want {
		t.Errorf("Parse(%x .. of %d bytes) = %+v, %d, want %+v, %d", s[:min(len(s), 64)], len(s), got, e, h, want)
	}
}

// wordAt tells word k of an image.
func wordAt(s string, k int) int { return int(binary.LittleEndian.Uint32([]byte(s[4*k:]))) }

// withWord tells an image of which word k is n.
func withWord(s string, k, n int) string {
	b := []byte(s)
	binary.LittleEndian.PutUint32(b[4*k:], uint32(n))
	return string(b)
}

// withHandler tells an image of which all of the handler's words are n.
func withHandler(s string, n int) string {
	for _, k := range []int{2, 3, 4, 5, 6, 11, 12, 13, 14, 15} {
		s = withWord(s, k, n)
	}
	return s
}

// code tells n bytes of code, of which neighbours are unlike.
func code(n int) string {
	b := make([]byte, n)
	for k := range b {
		b[k] = byte(k*7 + k>>8)
	}
	return string(b)
}

// spelledMay tells by the document's own words whether a head may be with n bytes of image.
func spelledMay(h Head, n int) bool {
	return memmap.Check(h.Sizes, n) == api.OK && spelledRest(h, n)
}

// spelledRest tells by the document's own words whether all but the sizes of a head may be.
func spelledRest(h Head, n int) bool {
	if h.Mode != 0 && h.Mode != 1 && h.Mode != 2 {
		return false
	}
	for _, a := range []int{h.Reset, h.Handler} {
		if a&1 != 0 || a < 64 || a >= n {
			return false
		}
	}
	return true
}

// spelledWords tells the 16 words of a head by the document's own words.
func spelledWords(h Head) [16]int {
	return [16]int{
		0x20040000, h.Reset + 1, h.Handler + 1, h.Handler + 1,
		h.Handler + 1, h.Handler + 1, h.Handler + 1, h.Sizes.In,
		h.Sizes.Out, h.Sizes.Rail, h.Mode, h.Handler + 1,
		h.Handler + 1, h.Handler + 1, h.Handler + 1, h.Handler + 1,
	}
}

// spelledBuild tells Build's answer by the document's own words.
func spelledBuild(h Head, code string) (string, api.Errno) {
	if e := memmap.Check(h.Sizes, 64+len(code)); e != api.OK {
		return "", e
	}
	if !spelledRest(h, 64+len(code)) {
		return "", api.ErrArg
	}
	var b []byte
	for _, n := range spelledWords(h) {
		b = binary.LittleEndian.AppendUint32(b, uint32(n))
	}
	return string(b) + code, api.OK
}

// spelledParse tells Parse's answer by the document's own words: a head whose words are those of s is the one that words 1, 2 and 7 to 10 tell, or there is none.
func spelledParse(s string) (Head, api.Errno) {
	if len(s) < 64 {
		return Head{}, api.ErrShort
	}
	h := Head{wordAt(s, 1) - 1, wordAt(s, 2) - 1, api.Sizes{In: wordAt(s, 7), Out: wordAt(s, 8), Rail: wordAt(s, 9)}, wordAt(s, 10)}
	if !spelledMay(h, len(s)) {
		return Head{}, api.ErrForm
	}
	for k, n := range spelledWords(h) {
		if wordAt(s, k) != n {
			return Head{}, api.ErrForm
		}
	}
	return h, api.OK
}

// The constant and the example of the chapter.

func TestConstant(t *testing.T) {
	if Code != 64 {
		t.Errorf("Code is %d", Code)
	}
}

func TestExample(t *testing.T) {
	s := built(t, Head{Reset: 64, Handler: 66, Sizes: api.Sizes{Rail: 4}}, loops)
	if len(s) != 68 || s[4] != 0x41 {
		t.Errorf("%d bytes: %x", len(s), s)
	}
}

// P6.1

func TestWords(t *testing.T) {
	want := "\x00\x00\x04\x20" + "\x41\x00\x00\x00" +
		"\x43\x00\x00\x00" + "\x43\x00\x00\x00" + "\x43\x00\x00\x00" + "\x43\x00\x00\x00" + "\x43\x00\x00\x00" +
		"\x08\x00\x00\x00" + "\x04\x00\x00\x00" + "\x0c\x00\x00\x00" + "\x02\x00\x00\x00" +
		"\x43\x00\x00\x00" + "\x43\x00\x00\x00" + "\x43\x00\x00\x00" + "\x43\x00\x00\x00" + "\x43\x00\x00\x00"
	if s := built(t, plain, loops); s != want+loops {
		t.Errorf("%x, want %x", s, want+loops)
	}
}

func TestEachWord(t *testing.T) {
	for _, x := range []struct {
		h Head
		n int
	}{
		{Head{Reset: 64, Handler: 64, Sizes: api.Sizes{Rail: 4}}, 1},
		{Head{Reset: 66, Handler: 64, Sizes: api.Sizes{In: 4, Rail: 4}, Mode: 1}, 3},
		{Head{Reset: 0x1234, Handler: 0x12346, Sizes: api.Sizes{In: 0x1234, Out: 0x2344, Rail: 0x3458}, Mode: 2}, 0x12345},
		{Head{Reset: 262142, Handler: 262140, Sizes: api.Sizes{In: 65536, Out: 65532, Rail: 65528}, Mode: 2}, 262080},
	} {
		c := code(x.n)
		s := built(t, x.h, c)
		if len(s) != 64+x.n || s[64:] != c {
			t.Errorf("%+v: other code: %d bytes", x.h, len(s))
		}
		for k, want := range spelledWords(x.h) {
			if got := wordAt(s, k); got != want {
				t.Errorf("%+v: word %d is %#x, want %#x", x.h, k, got, want)
			}
		}
	}
}

func TestSizesThatAreRefused(t *testing.T) {
	for _, x := range []struct {
		s    api.Sizes
		want api.Errno
	}{
		{api.Sizes{}, api.ErrArg}, {api.Sizes{In: 4, Out: 4}, api.ErrArg}, {api.Sizes{Rail: -4}, api.ErrArg}, {api.Sizes{Rail: 3}, api.ErrArg},
		{api.Sizes{In: -4, Rail: 4}, api.ErrArg}, {api.Sizes{In: 1, Rail: 4}, api.ErrArg}, {api.Sizes{Out: -4, Rail: 4}, api.ErrArg}, {api.Sizes{Out: 6, Rail: 4}, api.ErrArg},
		{api.Sizes{Rail: 5}, api.ErrArg}, {api.Sizes{In: 65537, Rail: 4}, api.ErrArg}, {api.Sizes{In: math.MinInt, Rail: 4}, api.ErrArg}, {api.Sizes{Rail: math.MaxInt}, api.ErrArg},
		{api.Sizes{In: 65540, Rail: 4}, api.ErrBig}, {api.Sizes{Out: 65540, Rail: 4}, api.ErrBig}, {api.Sizes{Rail: 65540}, api.ErrBig},
		{api.Sizes{In: 1 << 32, Rail: 4}, api.ErrBig}, {api.Sizes{Out: 1<<32 + 4, Rail: 4}, api.ErrBig}, {api.Sizes{Rail: 1<<32 + 4}, api.ErrBig}, {api.Sizes{Rail: math.MaxInt - 3}, api.ErrBig},
		{api.Sizes{In: 65540, Rail: 3}, api.ErrArg}, {api.Sizes{In: 3, Rail: 65540}, api.ErrArg}, {api.Sizes{In: 65540}, api.ErrArg}, {api.Sizes{Out: -4, Rail: 65540}, api.ErrArg},
		{api.Sizes{Rail: 4}, api.OK}, {api.Sizes{In: 65536, Out: 65536, Rail: 65536}, api.OK},
	} {
		told(t, Head{Reset: 64, Handler: 66, Sizes: x.s}, loops, x.want)
		if x.want != memmap.Check(x.s, 68) {
			t.Errorf("%+v: memmap tells another error than %d", x.s, x.want)
		}
	}
}

// Check's errors come first, whatever else a head has that may not be.
func TestWhichErrorOfSeveral(t *testing.T) {
	big, wrong := api.Sizes{Rail: 65540}, api.Sizes{In: 65540, Rail: 2}
	for _, h := range []Head{{Reset: 63, Handler: 66}, {Reset: 64, Handler: 68}, {Reset: 64, Handler: 66, Mode: 3}, {Reset: -1, Handler: math.MaxInt, Mode: -1}} {
		h.Sizes = big
		told(t, h, loops, api.ErrBig)
		told(t, h, "", api.ErrBig)
		h.Sizes = wrong
		told(t, h, loops, api.ErrArg)
		told(t, h, code(262081), api.ErrArg)
		h.Sizes = api.Sizes{Rail: 4}
		told(t, h, loops, api.ErrArg)
		told(t, h, code(262081), api.ErrBig)
	}
}

func TestLengthsOfCode(t *testing.T) {
	for _, x := range []struct {
		n    int
		want api.Errno
	}{
		{0, api.ErrArg}, {1, api.ErrArg}, {2, api.ErrArg}, {3, api.OK}, {4, api.OK}, {5, api.OK},
		{262079, api.OK}, {262080, api.OK}, {262081, api.ErrBig}, {262082, api.ErrBig}, {262084, api.ErrBig}, {262144, api.ErrBig}, {524288, api.ErrBig},
	} {
		told(t, plain, code(x.n), x.want)
	}
}

// With no code there is no byte that Reset may be at.
func TestNoCode(t *testing.T) {
	for _, a := range far {
		told(t, Head{Reset: a, Handler: a, Sizes: plain.Sizes}, "", api.ErrArg)
	}
	told(t, Head{Reset: 64, Handler: 64, Sizes: plain.Sizes}, "\x00", api.OK)
}

func TestModes(t *testing.T) {
	for m, want := range map[int]api.Errno{0: api.OK, 1: api.OK, 2: api.OK, -1: api.ErrArg, -2: api.ErrArg, 3: api.ErrArg, 4: api.ErrArg, 1 << 32: api.ErrArg, 1<<32 + 2: api.ErrArg, -1 << 32: api.ErrArg, math.MinInt: api.ErrArg, math.MaxInt: api.ErrArg} {
		h := plain
		h.Mode = m
		told(t, h, loops, want)
		if want == api.OK && wordAt(built(t, h, loops), 10) != m {
			t.Errorf("mode %d is not told", m)
		}
	}
}

func TestResetAndHandler(t *testing.T) {
	for _, n := range []int{65, 66, 67, 68, 69, 100, 101, 262143, 262144} {
		c := code(n - 64)
		last := (n - 1) / 2 * 2
		told(t, Head{Reset: last, Handler: 64, Sizes: plain.Sizes}, c, api.OK)
		told(t, Head{Reset: 64, Handler: last, Sizes: plain.Sizes}, c, api.OK)
		told(t, Head{Reset: last, Handler: last, Sizes: plain.Sizes}, c, api.OK)
		for _, a := range []int{62, 63, 65, last + 1, last + 2, last + 3, n, n + 1, n + 2, 1<<32 + 64, -64, 0, 2, math.MinInt, math.MaxInt, math.MaxInt - 1} {
			told(t, Head{Reset: a, Handler: 64, Sizes: plain.Sizes}, c, api.ErrArg)
			told(t, Head{Reset: 64, Handler: a, Sizes: plain.Sizes}, c, api.ErrArg)
		}
	}
}

func TestBuildHeldAgainstWords(t *testing.T) {
	var some []api.Sizes
	for _, n := range []int{-4, 0, 2, 4, 65536, 65540} {
		some = append(some, api.Sizes{In: n, Rail: 4}, api.Sizes{Out: n, Rail: 8}, api.Sizes{In: 8, Out: 4, Rail: n})
	}
	for _, sizes := range some {
		for _, m := range []int{-1, 0, 1, 2, 3} {
			for _, reset := range far {
				for _, handler := range far {
					for _, n := range []int{0, 1, 2, 3, 4} {
						h := Head{Reset: reset, Handler: handler, Sizes: sizes, Mode: m}
						want, e := spelledBuild(h, loops[:n])
						told(t, h, loops[:n], e)
						if s, _ := Build(h, loops[:n]); s != want {
							t.Fatalf("Build(%+v, %d bytes) = %x, want %x", h, n, s, want)
						}
					}
				}
			}
		}
	}
}

// P6.2

func TestTooShort(t *testing.T) {
	s := built(t, plain, loops)
	for n := range 64 {
		parsed(t, s[:n], Head{}, api.ErrShort)
		parsed(t, strings.Repeat("\x00", n), Head{}, api.ErrShort)
		parsed(t, strings.Repeat("\xff", n), Head{}, api.ErrShort)
	}
}

// Neither of 64 bytes nor of any that end ahead of Reset or Handler is there a head that may be.
func TestCutOff(t *testing.T) {
	s := built(t, plain, loops)
	for _, n := range []int{64, 65, 66} {
		parsed(t, s[:n], Head{}, api.ErrForm)
	}
	parsed(t, s[:67], plain, api.OK)
	parsed(t, s, plain, api.OK)
	parsed(t, s+"\x00", plain, api.OK)
	back := withWord(withHandler(s, 65), 1, 67)
	parsed(t, back[:66], Head{}, api.ErrForm)
	parsed(t, back[:67], Head{Reset: 66, Handler: 64, Sizes: plain.Sizes, Mode: 2}, api.OK)
}

func TestExactly64(t *testing.T) {
	s := built(t, plain, loops)[:64]
	parsed(t, s, Head{}, api.ErrForm)
	for _, n := range []int{0, 1, 61, 63, 64, 65, 67, 1<<32 - 1} {
		parsed(t, withWord(withHandler(s, n), 1, n), Head{}, api.ErrForm)
	}
	parsed(t, strings.Repeat("\x00", 64), Head{}, api.ErrForm)
	parsed(t, strings.Repeat("\xff", 64), Head{}, api.ErrForm)
}

func TestLongest(t *testing.T) {
	s := built(t, plain, code(262080))
	parsed(t, s, plain, api.OK)
	parsed(t, s+"\x00", Head{}, api.ErrForm)
	parsed(t, s+loops, Head{}, api.ErrForm)
	parsed(t, s+s, Head{}, api.ErrForm)
}

func TestOtherFirstWord(t *testing.T) {
	s := built(t, plain, loops)
	for _, n := range []int{0, 1, 0x20040001, 0x20040004, 0x20080000, 0x20020000, 0x2003fffc, 1<<32 - 1} {
		parsed(t, withWord(s, 0, n), Head{}, api.ErrForm)
	}
}

func TestWordsOfResetAndHandler(t *testing.T) {
	s := built(t, plain, loops)
	for _, n := range []int{0, 1, 2, 62, 63, 64, 66, 68, 69, 70, 71, 0x141, 1 << 31, 1<<31 + 1, 1<<31 + 65, 1<<32 - 2, 1<<32 - 1} {
		parsed(t, withWord(s, 1, n), Head{}, api.ErrForm)
		parsed(t, withHandler(s, n), Head{}, api.ErrForm)
	}
	for _, n := range []int{65, 67} {
		parsed(t, withWord(s, 1, n), Head{Reset: n - 1, Handler: 66, Sizes: plain.Sizes, Mode: 2}, api.OK)
		parsed(t, withHandler(s, n), Head{Reset: 64, Handler: n - 1, Sizes: plain.Sizes, Mode: 2}, api.OK)
	}
}

// One of the handler's words may not differ from the other ones, be it one that could be a handler's too.
func TestHandlersUnlike(t *testing.T) {
	s := built(t, plain, loops)
	for _, k := range []int{2, 3, 4, 5, 6, 11, 12, 13, 14, 15} {
		for _, n := range []int{0, 65, 66, 68, 69, 1<<31 + 67, 1<<32 - 1} {
			parsed(t, withWord(s, k, n), Head{}, api.ErrForm)
			parsed(t, withWord(withHandler(s, n), k, 67), Head{}, api.ErrForm)
		}
		parsed(t, withWord(s, k, 67), plain, api.OK)
	}
}

func TestWordsOfSizes(t *testing.T) {
	s := built(t, plain, loops)
	for k := 7; k <= 9; k++ {
		for _, n := range []int{1, 2, 3, 5, 65535, 65537, 65540, 131072, 1 << 20, 1<<31 - 4, 1<<31 - 1, 1 << 31, 1<<31 + 4, 1<<32 - 4, 1<<32 - 1} {
			parsed(t, withWord(s, k, n), Head{}, api.ErrForm)
		}
		for _, n := range []int{4, 8, 12, 65532, 65536} {
			h := plain
			*[]*int{&h.Sizes.In, &h.Sizes.Out, &h.Sizes.Rail}[k-7] = n
			parsed(t, withWord(s, k, n), h, api.OK)
		}
	}
	parsed(t, withWord(s, 9, 0), Head{}, api.ErrForm)
	parsed(t, withWord(withWord(s, 7, 0), 8, 0), Head{Reset: 64, Handler: 66, Sizes: api.Sizes{Rail: 12}, Mode: 2}, api.OK)
}

func TestWordOfMode(t *testing.T) {
	s := built(t, plain, loops)
	for _, n := range []int{3, 4, 0x100, 1 << 31, 1<<31 + 1, 1<<32 - 2, 1<<32 - 1} {
		parsed(t, withWord(s, 10, n), Head{}, api.ErrForm)
	}
	for n := range 3 {
		h := plain
		h.Mode = n
		parsed(t, withWord(s, 10, n), h, api.OK)
	}
}

// Each bit of each of the 16 words turned, alone and with another one, is either no image any more, or that of another head.
func TestBitsTurned(t *testing.T) {
	for _, c := range []string{loops, code(300)} {
		s := built(t, plain, c)
		for i := range 512 {
			for j := range i + 1 {
				b := []byte(s)
				b[i/8] ^= 1 << (i % 8)
				if j != i {
					b[j/8] ^= 1 << (j % 8)
				}
				h, e := spelledParse(string(b))
				parsed(t, string(b), h, e)
				if h == plain {
					t.Fatalf("bits %d and %d: still the same head", i, j)
				}
			}
		}
	}
}

// P6.3

// heads hands over heads that may be with n bytes of image, and their code.
func heads(n int, yield func(h Head, code string)) {
	last := (n - 1) / 2 * 2
	c := code(n - 64)
	for m := range 3 {
		for _, reset := range []int{64, (64 + last) / 4 * 2, last} {
			for _, handler := range []int{64, (64 + last) / 4 * 2, last} {
				for _, size := range []int{4, 8, 1024, 65532, 65536} {
					for _, other := range []int{0, 4, 65536} {
						yield(Head{max(reset, 64), max(handler, 64), api.Sizes{In: size, Out: other, Rail: 4}, m}, c)
						yield(Head{max(reset, 64), max(handler, 64), api.Sizes{In: other, Out: 0, Rail: size}, m}, c)
					}
				}
			}
		}
	}
}

func TestBuiltIsParsed(t *testing.T) {
	for _, n := range []int{65, 66, 67, 68, 128, 4097, 262143, 262144} {
		heads(n, func(h Head, c string) { parsed(t, built(t, h, c), h, api.OK) })
	}
}

func TestParsedIsBuilt(t *testing.T) {
	s := built(t, plain, loops+loops)
	count := 0
	for k := range 16 {
		for n := range 256 {
			for _, x := range []string{withWord(s, k, n), withHandler(s, n), withWord(withHandler(s, 65), k, n*4)} {
				h, e := Parse(x)
				if e != api.OK {
					continue
				}
				count++
				if back := built(t, h, x[Code:]); back != x {
					t.Errorf("%+v: %x, want %x", h, back, x)
				}
			}
		}
	}
	if count < 100 {
		t.Errorf("only %d were parsed", count)
	}
}

// An image may stand in another one's code: what is behind the first 64 bytes does not matter to the head.
func TestCodeDoesNotMatter(t *testing.T) {
	inner := built(t, Head{Reset: 66, Handler: 64, Sizes: api.Sizes{Rail: 4}}, loops)
	s := built(t, plain, inner)
	parsed(t, s, plain, api.OK)
	if s[Code:] != inner {
		t.Errorf("other code: %x", s[Code:])
	}
	for _, c := range []string{"\x00\x00\x00", "\xff\xff\xff\xff", "\xc3\xa9\xe2\x82\xac", "\xc3\x28\xff\xfe"} {
		s := built(t, plain, c)
		parsed(t, s, plain, api.OK)
		if s[Code:] != c {
			t.Errorf("other code: %x, want %x", s[Code:], c)
		}
	}
}
