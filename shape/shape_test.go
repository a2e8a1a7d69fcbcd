package shape

import (
	"fmt"
	"math"
	"math/rand/v2"
	"slices"
	"strings"
	"testing"
	"unsafe"

	"hauberk/api"
	"hauberk/syntax"
	"hauberk/types"
)

// parsed tells the program of a text.
func parsed(t *testing.T, text string) api.Program {
	t.Helper()
	p, bad := syntax.Parse(text)
	if bad.Err != api.OK {
		t.Fatalf("%s: not parsed: %v", text, bad)
	}
	return p
}

// fieldsOf tells the fields of a main with such parameters that does nothing.
func fieldsOf(t *testing.T, params string) []api.Field {
	t.Helper()
	l, err := Of(parsed(t, "fn main("+params+") { }"))
	if err != api.OK {
		t.Fatalf("%s: error %d", params, err)
	}
	return l
}

// has fails if a program's fields are not those.
func has(t *testing.T, p api.Program, want []api.Field) {
	t.Helper()
	l, err := Of(p)
	if err != api.OK || !slices.Equal(l, want) {
		t.Errorf("Of = %+v, error %d, want %+v", l, err, want)
	}
}

// refusedOf fails if Of does not tell that error, and no fields beside it.
func refusedOf(t *testing.T, what string, p api.Program, want api.Errno) {
	t.Helper()
	if bad := types.Check(p); bad.Err != want {
		t.Fatalf("%s: Check tells %d, want %d", what, bad.Err, want)
	}
	if l, err := Of(p); err != want || len(l) > 0 {
		t.Errorf("%s: Of = %v, error %d, want none, error %d", what, l, err, want)
	}
}

// sized fails if there are not that many bytes.
func sized(t *testing.T, l []api.Field, in, out int) {
	t.Helper()
	if a, b := Sizes(l); a != in || b != out {
		t.Errorf("Sizes(%d fields) = %d, %d, want %d, %d", len(l), a, b, in, out)
	}
}

// packs fails if Pack does not tell that.
func packs(t *testing.T, l []api.Field, v [][]int, want string, errno api.Errno) {
	t.Helper()
	if s, err := Pack(l, v); s != want || err != errno {
		t.Errorf("Pack(%s, %s) = %s, error %d, want %s, error %d", short(l), short(v), short([]byte(s)), err, short([]byte(want)), errno)
	}
}

// unpacks fails if Unpack does not tell that.
func unpacks(t *testing.T, l []api.Field, out string, want [][]int, errno api.Errno) {
	t.Helper()
	if v, err := Unpack(l, out); !slices.EqualFunc(v, want, slices.Equal) || err != errno {
		t.Errorf("Unpack(%s, %s) = %s, error %d, want %s, error %d", short(l), short([]byte(out)), short(v), err, short(want), errno)
	}
}

// agrees fails if Agree does not tell that, whichever of the two inputs stands first.
func agrees(t *testing.T, l []api.Field, a, b string, want bool) {
	t.Helper()
	if Agree(l, a, b) != want || Agree(l, b, a) != want {
		t.Errorf("Agree(%s, %s, %s) = %v, %v, want %v", short(l), short([]byte(a)), short([]byte(b)), Agree(l, a, b), Agree(l, b, a), want)
	}
}

// short tells a thing with no more letters than can be read.
func short(x any) string {
	s := fmt.Sprint(x)
	return s[:min(len(s), 300)]
}

// refused fails if one of the calls takes fields that may not be, whatever is handed in beside them.
func refused(t *testing.T, what string, l []api.Field) {
	t.Helper()
	sized(t, l, 0, 0)
	var full [][]int
	ends := map[int]bool{0: true, 4: true, 65536: true}
	sums := map[bool]int{}
	for _, f := range l {
		if !f.Out {
			full = append(full, make([]int, min(max(f.Type.Len, 1), 20000)))
		}
		sums[f.Out] += f.Size
		if len(l) < 100 {
			ends[sums[f.Out]], ends[f.Off+f.Size] = true, true
		}
	}
	ends[sums[false]], ends[sums[true]] = true, true
	for _, v := range [][][]int{nil, full, append(slices.Clone(full), []int{1})} {
		if s, err := Pack(l, v); s != "" || err != api.ErrArg {
			t.Errorf("%s: Pack of %d values = %d bytes, error %d, want none, ErrArg", what, len(v), len(s), err)
		}
	}
	for n := range ends {
		if n < 0 || n > 140000 {
			continue
		}
		s := strings.Repeat("\x00", n)
		if v, err := Unpack(l, s); len(v) > 0 || err != api.ErrArg {
			t.Errorf("%s: Unpack of %d bytes = %s, error %d, want none, ErrArg", what, n, short(v), err)
		}
		if Agree(l, s, s) {
			t.Errorf("%s: Agree of %d bytes", what, n)
		}
	}
	if t.Failed() {
		t.Fatalf("%s: %s", what, short(l))
	}
}

// The chapter's example.

func TestExample(t *testing.T) {
	l := []api.Field{
		{Name: "n", Type: api.Type{Elem: api.TU32, Label: api.Pub}, Off: 0, Size: 4},
		{Name: "k", Type: api.Type{Elem: api.TU8, Len: 5, Label: api.Sec}, Off: 4, Size: 8},
	}
	has(t, parsed(t, "fn main(pub n: u32, sec k: u8[5]) { }"), l)
	sized(t, l, 12, 0)
}

// P15.1

// kinds are types, with the bytes that each has.
var kinds = []struct {
	text      string
	elem, len int
	size      int
}{
	{"u32[1]", api.TU32, 1, 4}, {"u32[2]", api.TU32, 2, 8}, {"u32[3]", api.TU32, 3, 12}, {"u32[4]", api.TU32, 4, 16}, {"u32[5]", api.TU32, 5, 20},
	{"u32[16383]", api.TU32, 16383, 65532}, {"u32[16384]", api.TU32, 16384, 65536},
	{"u8[1]", api.TU8, 1, 4}, {"u8[2]", api.TU8, 2, 4}, {"u8[3]", api.TU8, 3, 4}, {"u8[4]", api.TU8, 4, 4}, {"u8[5]", api.TU8, 5, 8},
	{"u8[16380]", api.TU8, 16380, 16380}, {"u8[16381]", api.TU8, 16381, 16384}, {"u8[16383]", api.TU8, 16383, 16384}, {"u8[16384]", api.TU8, 16384, 16384},
	{"u32", api.TU32, 0, 4},
}

// labels are labels, with the words for them.
var labels = []struct {
	text  string
	label int
}{{"pub", api.Pub}, {"sec", api.Sec}}

func TestOfEachType(t *testing.T) {
	for _, k := range kinds {
		for _, b := range labels {
			kind := api.Type{Elem: k.elem, Len: k.len, Label: b.label}
			l := []api.Field{{Name: "some_1", Type: kind, Size: k.size}}
			has(t, parsed(t, "fn main("+b.text+" some_1: "+k.text+") { }"), l)
			sized(t, l, k.size, 0)
			if k.len == 0 {
				continue
			}
			l[0].Out = true
			has(t, parsed(t, "fn main(out "+b.text+" some_1: "+k.text+") { }"), l)
			sized(t, l, 0, k.size)
		}
	}
}

// mixed are parameters of all kinds, and their fields.
const mixed = "sec z: u8[5], out pub b: u32[2], pub n: u32, out sec a: u8[3], sec y: u32, pub m: u8[1], out sec o: u8[8], pub w: u32[3], out pub e: u32[1], sec k: u8[2]"

var mixedFields = []api.Field{
	{Name: "z", Type: api.Type{Elem: api.TU8, Len: 5, Label: api.Sec}, Off: 0, Size: 8},
	{Name: "b", Type: api.Type{Elem: api.TU32, Len: 2, Label: api.Pub}, Out: true, Off: 0, Size: 8},
	{Name: "n", Type: api.Type{Elem: api.TU32, Len: 0, Label: api.Pub}, Off: 8, Size: 4},
	{Name: "a", Type: api.Type{Elem: api.TU8, Len: 3, Label: api.Sec}, Out: true, Off: 8, Size: 4},
	{Name: "y", Type: api.Type{Elem: api.TU32, Len: 0, Label: api.Sec}, Off: 12, Size: 4},
	{Name: "m", Type: api.Type{Elem: api.TU8, Len: 1, Label: api.Pub}, Off: 16, Size: 4},
	{Name: "o", Type: api.Type{Elem: api.TU8, Len: 8, Label: api.Sec}, Out: true, Off: 12, Size: 8},
	{Name: "w", Type: api.Type{Elem: api.TU32, Len: 3, Label: api.Pub}, Off: 20, Size: 12},
	{Name: "e", Type: api.Type{Elem: api.TU32, Len: 1, Label: api.Pub}, Out: true, Off: 20, Size: 4},
	{Name: "k", Type: api.Type{Elem: api.TU8, Len: 2, Label: api.Sec}, Off: 32, Size: 4},
}

func TestOfInOrder(t *testing.T) {
	has(t, parsed(t, "fn main("+mixed+") { }"), mixedFields)
	sized(t, mixedFields, 36, 24)
}

func TestOfMainAlone(t *testing.T) {
	has(t, parsed(t, "fn main() { }"), nil)
	has(t, parsed(t, "fn other(pub a: u32[7], out sec b: u8[9], sec m: mask) { } fn main() { }"), nil)
	has(t, parsed(t, "fn other(pub a: u32[3], sec m: mask): sec u32 { return 1; } fn main("+mixed+") { let q = other(w, n == 0); o[0] = q; }"), mixedFields)
	has(t, parsed(t, "fn aside(out pub a: u32[2]) { a[1] = 3; } fn main(out pub b: u32[2], sec c: u32) { var sec x: u8[5]; aside(b); }"), []api.Field{
		{Name: "b", Type: api.Type{Elem: api.TU32, Len: 2, Label: api.Pub}, Out: true, Off: 0, Size: 8},
		{Name: "c", Type: api.Type{Elem: api.TU32, Len: 0, Label: api.Sec}, Off: 0, Size: 4},
	})
}

// amiss are texts of which each has an error of Check's.
var amiss = []struct {
	what, text string
	err        api.Errno
}{
	{"no function", "", api.ErrMain},
	{"a last function that is not main", "fn main() { } fn other(pub n: u32) { }", api.ErrMain},
	{"main with a result", "fn main(pub n: u32): pub u32 { return n; }", api.ErrMain},
	{"main of a mask", "fn main(pub n: u32, pub m: mask) { }", api.ErrMain},
	{"a function twice", "fn f() { } fn f() { } fn main(pub n: u32) { }", api.ErrTwice},
	{"a parameter twice", "fn main(pub n: u32, sec n: u8[4]) { }", api.ErrTwice},
	{"a name twice", "fn main(pub n: u32) { let n = 1; }", api.ErrTwice},
	{"a name that is not known", "fn main(pub n: u32) { let q = m; }", api.ErrName},
	{"a scalar that goes out", "fn main(pub n: u32, out pub o: u32) { }", api.ErrType},
	{"a mask where a word should be", "fn main(pub n: u32) { let q = n + (n == 0); }", api.ErrType},
	{"what is stored where it may not be", "fn main(pub n: u32[4]) { n[0] = 1; }", api.ErrType},
	{"what is secret told", "fn main(sec n: u32, out pub o: u32[1]) { o[0] = n; }", api.ErrFlow},
	{"a secret condition", "fn main(sec n: u32) { if n == 0 { } }", api.ErrFlow},
	{"too few handed over", "fn f(pub a: u32) { } fn main(pub n: u32) { f(); }", api.ErrArity},
	{"an array that is too long", "fn main(pub n: u32, pub l: u8[16385]) { }", api.ErrLimit},
	{"an array that goes out and is too long", "fn main(out pub l: u32[16385]) { }", api.ErrLimit},
	{"too many bits", "fn main(pub n: u32) { let q = n << 32; }", api.ErrLimit},
	{"too many bytes of input", "fn main(pub l: u32[16384], pub n: u32) { }", api.ErrLimit},
	{"too many bytes of output", "fn main(out pub l: u32[16384], out pub n: u8[1]) { }", api.ErrLimit},
	{"a loop that is too long", "fn main(pub n: u32) { for i < n max 65537 { } }", api.ErrLimit},
	{"what costs too much", "fn main(pub n: u32) { for i < n max 65536 { } }", api.ErrLimit},
}

func TestOfErrors(t *testing.T) {
	for _, x := range amiss {
		refusedOf(t, x.what, parsed(t, x.text), x.err)
	}
}

// nested tells an expression of so many signs ahead.
func nested(n int) api.Expr {
	x := api.Expr{Kind: api.ENum, Num: 1}
	for range n {
		x = api.Expr{Kind: api.ENot, Args: []api.Expr{x}}
	}
	return x
}

func TestOfProseErrors(t *testing.T) {
	param := api.Param{Name: "n", Type: api.Type{Elem: api.TU32}}
	main := func(name string, kind api.Type, body ...api.Stmt) api.Program {
		return api.Program{Funcs: []api.Func{{Name: "main", Params: []api.Param{param, {Name: name, Type: kind}}, Body: body}}}
	}
	word := api.Type{Elem: api.TU32}
	refusedOf(t, "no program at all", api.Program{}, api.ErrMain)
	refusedOf(t, "a parameter without a name", main("", word), api.ErrArg)
	refusedOf(t, "a word of the language as a name", main("fn", word), api.ErrArg)
	refusedOf(t, "no element", main("a", api.Type{Elem: 3}), api.ErrArg)
	refusedOf(t, "no label", main("a", api.Type{Label: 2}), api.ErrArg)
	refusedOf(t, "a length below 0", main("a", api.Type{Len: -1}), api.ErrArg)
	refusedOf(t, "a byte by itself", main("a", api.Type{Elem: api.TU8}), api.ErrArg)
	refusedOf(t, "a length that is no number of a text", main("a", api.Type{Len: 1 << 32}), api.ErrArg)
	refusedOf(t, "a length that no memory has", main("a", api.Type{Len: 1<<32 - 1}), api.ErrLimit)
	refusedOf(t, "no statement", main("a", word, api.Stmt{}), api.ErrArg)
	refusedOf(t, "nests that are too deep", main("a", word, api.Stmt{Kind: api.SLet, Name: "b", Args: []api.Expr{nested(100)}}), api.ErrDeep)
	has(t, main("a", word, api.Stmt{Kind: api.SLet, Name: "b", Args: []api.Expr{nested(50)}}), []api.Field{{Name: "n", Size: 4}, {Name: "a", Off: 4, Size: 4}})
}

// full are fields of just as many bytes as there may be, and how many go in, and out.
var full = []struct {
	params  string
	in, out int
}{
	{"pub a: u32[16384]", 65536, 0},
	{"out pub a: u32[16384]", 0, 65536},
	{"pub a: u32[16384], out sec b: u32[16384]", 65536, 65536},
	{"pub n: u32, sec a: u32[16383], out sec b: u8[4], out pub c: u32[16383]", 65536, 65536},
	{"pub a: u8[16384], sec b: u8[16384], pub c: u8[16384], sec d: u8[16381]", 65536, 0},
	{"out pub a: u8[16381], out sec b: u8[16384], out pub c: u8[16384], out sec d: u8[16384]", 0, 65536},
	{"pub a: u32[16383], sec b: u8[1]", 65536, 0},
}

func TestSizesOfTheGreatest(t *testing.T) {
	for _, x := range full {
		l := fieldsOf(t, x.params)
		sized(t, l, x.in, x.out)
		// One field more, whichever, is too much in the way that is full, and in no other one.
		for _, f := range []api.Field{
			{Type: api.Type{Elem: api.TU32}, Off: x.in, Size: 4},
			{Type: api.Type{Elem: api.TU8, Len: 1}, Off: x.in, Size: 4},
			{Type: api.Type{Elem: api.TU32, Len: 1}, Off: x.in, Size: 4},
			{Type: api.Type{Elem: api.TU8, Len: 1}, Out: true, Off: x.out, Size: 4},
			{Type: api.Type{Elem: api.TU32, Len: 1}, Out: true, Off: x.out, Size: 4},
		} {
			more := append(slices.Clone(l), f)
			switch {
			case f.Off == 65536:
				refused(t, x.params, more)
			case f.Out:
				sized(t, more, x.in, x.out+4)
			default:
				sized(t, more, x.in+4, x.out)
			}
		}
	}
	two := spelledLay([]api.Field{{Type: api.Type{Len: 16384}}, {Type: api.Type{Len: 16384}}})
	refused(t, "twice what there may be", two)
	two = spelledLay([]api.Field{{Type: api.Type{Len: 16384}, Out: true}, {Type: api.Type{Len: 16384}, Out: true}})
	refused(t, "twice what there may be", two)
}

func TestSizesOfManyFields(t *testing.T) {
	l := make([]api.Field, 16384)
	sized(t, spelledLay(l), 65536, 0)
	refused(t, "16385 scalars", spelledLay(append(l, api.Field{})))
	for k := range l {
		l[k] = api.Field{Type: api.Type{Elem: api.TU8, Len: 1 + k%4, Label: k % 2}, Out: true}
	}
	sized(t, spelledLay(l), 0, 65536)
	sized(t, spelledLay(append(l, api.Field{})), 4, 65536)
	refused(t, "16385 arrays", spelledLay(append(l, l[0])))
	l = append(l, make([]api.Field, 16384)...)
	sized(t, spelledLay(l), 65536, 65536)
	refused(t, "16385 scalars", spelledLay(append(l, api.Field{})))
}

func TestNoFields(t *testing.T) {
	for _, l := range [][]api.Field{nil, {}} {
		sized(t, l, 0, 0)
		packs(t, l, nil, "", api.OK)
		packs(t, l, [][]int{}, "", api.OK)
		packs(t, l, [][]int{{}}, "", api.ErrArity)
		packs(t, l, [][]int{{1}}, "", api.ErrArity)
		unpacks(t, l, "", nil, api.OK)
		unpacks(t, l, "\x00", nil, api.ErrArg)
		agrees(t, l, "", "", true)
		agrees(t, l, "", "\x00", false)
		agrees(t, l, "\x00", "\x00", false)
	}
}

func TestNamesDoNotMatter(t *testing.T) {
	l := slices.Clone(mixedFields)
	for _, name := range []string{"", "n", "fn", "\xff", strings.Repeat("x", 1000)} {
		for k := range l {
			l[k].Name = name
		}
		sized(t, l, 36, 24)
	}
}

// numbers are far ones, ones below 0, and ones whose words are others' words.
var numbers = []int{math.MinInt, math.MinInt + 1, -1 << 62, -1 << 32, -65536, -4, -3, -2, -1, 4, 5, 8, 1 << 32, 1<<32 + 1, 1 << 61, 1 << 62, 1<<62 + 1, math.MaxInt - 3, math.MaxInt - 1, math.MaxInt}

// lays tells fields of which one was changed: all else as it was; those behind it laid behind what it says that it has; or all laid anew.
func lays(l []api.Field, k int, f api.Field) [][]api.Field {
	as := slices.Clone(l)
	as[k] = f
	behind := slices.Clone(as)
	end := f.Off + f.Size
	for j := k + 1; j < len(behind); j++ {
		if behind[j].Out == f.Out {
			behind[j].Off = end
			end += behind[j].Size
		}
	}
	all := [][]api.Field{as, behind}
	if f.Type.Len < 1<<20 {
		all = append(all, spelledLay(as))
	}
	return all
}

// spoils fails if a field's change, be the others laid as they may, is taken.
func spoils(t *testing.T, what string, l []api.Field, k int, f api.Field) {
	t.Helper()
	for _, s := range lays(l, k, f) {
		refused(t, fmt.Sprintf("%s at %d", what, k), s)
	}
}

func TestElementsThatMayNotBe(t *testing.T) {
	for k, f := range mixedFields {
		for _, elem := range append([]int{api.TMask, 3}, numbers...) {
			f.Type.Elem = elem
			for _, f.Size = range []int{4, f.Type.Len, 4 * f.Type.Len, (f.Type.Len + 3) &^ 3, 0} {
				spoils(t, "an element", mixedFields, k, f)
			}
		}
	}
}

func TestLabelsThatMayNotBe(t *testing.T) {
	for k, f := range mixedFields {
		for _, label := range append([]int{2, 3}, numbers...) {
			f.Type.Label = label
			spoils(t, "a label", mixedFields, k, f)
		}
		f.Type.Label = 1 - mixedFields[k].Type.Label
		sized(t, lays(mixedFields, k, f)[0], 36, 24)
	}
}

func TestLengthsThatMayNotBe(t *testing.T) {
	for k, f := range mixedFields {
		for _, n := range append([]int{0, 16385, 16386, 16388, 20000, 65536}, numbers...) {
			if n == 0 && f.Type.Elem == api.TU32 && !f.Out || n > 0 && n < 16384 {
				continue
			}
			f.Type.Len = n
			for _, f.Size = range []int{4, n, 4 * n, (n + 3) &^ 3, 0} {
				spoils(t, "a length", mixedFields, k, f)
			}
		}
	}
	// Each by itself, with as many bytes as it should have.
	for _, out := range []bool{false, true} {
		refused(t, "a byte by itself", []api.Field{{Type: api.Type{Elem: api.TU8}, Out: out, Size: 4}})
		refused(t, "no bytes", []api.Field{{Type: api.Type{Elem: api.TU8}, Out: out}})
		refused(t, "a length below 0", []api.Field{{Type: api.Type{Len: -1}, Out: out, Size: -4}})
		refused(t, "a length below 0", []api.Field{{Type: api.Type{Len: -1}, Out: out, Size: 4}})
		refused(t, "16385 bytes", []api.Field{{Type: api.Type{Elem: api.TU8, Len: 16385}, Out: out, Size: 16388}})
		refused(t, "16385 words", []api.Field{{Type: api.Type{Elem: api.TU32, Len: 16385}, Out: out, Size: 65540}})
	}
}

func TestScalarsThatGoOut(t *testing.T) {
	refused(t, "a scalar that goes out", []api.Field{{Out: true, Size: 4}})
	refused(t, "a scalar that goes out", []api.Field{{Out: true}})
	for k, f := range mixedFields {
		f.Type.Elem, f.Type.Len, f.Size, f.Out = api.TU32, 0, 4, true
		spoils(t, "a scalar that goes out", mixedFields, k, f)
	}
}

func TestPlacesThatMayNotBe(t *testing.T) {
	for k, right := range mixedFields {
		for _, n := range append([]int{0, 1, 2, 3, 6, 7, 12, 16, 20, 24, 32, 36, 40}, numbers...) {
			f := right
			if f.Off = n; n != right.Off {
				spoilsPlace(t, "a place", k, f)
			}
			f = right
			if f.Off += n; n != 0 {
				spoilsPlace(t, "a place", k, f)
			}
			f = right
			if f.Size = n; n != right.Size {
				spoilsPlace(t, "a size", k, f)
			}
			f = right
			if f.Size += n; n != 0 {
				spoilsPlace(t, "a size", k, f)
			}
		}
		f := right
		f.Off, f.Size = f.Off-4, f.Size+4
		spoilsPlace(t, "a place and a size", k, f)
	}
	// Those that go out are laid by themselves.
	refused(t, "one behind the other", []api.Field{{Size: 4}, {Type: api.Type{Len: 1}, Out: true, Off: 4, Size: 4}})
	refused(t, "one behind the other", []api.Field{{Type: api.Type{Len: 1}, Out: true, Size: 4}, {Off: 4, Size: 4}})
	refused(t, "all in one place", []api.Field{{Size: 4}, {Size: 4}})
	refused(t, "in another order", []api.Field{{Off: 4, Size: 4}, {Size: 4}})
	refused(t, "bytes not made up", []api.Field{{Type: api.Type{Elem: api.TU8, Len: 5}, Size: 5}})
	refused(t, "bytes as words", []api.Field{{Type: api.Type{Elem: api.TU8, Len: 5}, Size: 20}})
	refused(t, "words as bytes", []api.Field{{Type: api.Type{Elem: api.TU32, Len: 5}, Size: 8}})
}

// spoilsPlace fails if a place or a size is taken, be those behind as they were, or laid behind it.
func spoilsPlace(t *testing.T, what string, k int, f api.Field) {
	t.Helper()
	for _, s := range lays(mixedFields, k, f)[:2] {
		refused(t, fmt.Sprintf("%s at %d", what, k), s)
	}
}

// P15.2

// mixedValues are values for mixed's fields, and mixedInput what they are as bytes.
var mixedValues = [][]int{{1, 0x1ff, -1, 256, 0x80}, {0x01020304}, {-2}, {0x3f7}, {1 << 32, 1<<32 + 5, math.MinInt}, {7, 8}}

const mixedInput = "\x01\xff\xff\x00\x80\x00\x00\x00" + "\x04\x03\x02\x01" + "\xfe\xff\xff\xff" + "\xf7\x00\x00\x00" +
	"\x00\x00\x00\x00\x05\x00\x00\x00\x00\x00\x00\x00" + "\x07\x08\x00\x00"

func TestPack(t *testing.T) {
	packs(t, mixedFields, mixedValues, mixedInput, api.OK)
	packs(t, fieldsOf(t, "pub n: u32"), [][]int{{5}}, "\x05\x00\x00\x00", api.OK)
	packs(t, fieldsOf(t, "out pub a: u32[2], sec n: u32[1], out pub b: u8[3]"), [][]int{{5}}, "\x05\x00\x00\x00", api.OK)
	packs(t, fieldsOf(t, "out pub a: u32[2]"), nil, "", api.OK)
	for k, want := range []string{"\x01\x00\x00\x00", "\x01\x02\x00\x00", "\x01\x02\x03\x00", "\x01\x02\x03\x04", "\x01\x02\x03\x04\x05\x00\x00\x00"} {
		value := []int{1, 2, 3, 4, 5}[:k+1]
		packs(t, fieldsOf(t, fmt.Sprintf("sec k: u8[%d]", k+1)), [][]int{value}, want, api.OK)
		packs(t, fieldsOf(t, fmt.Sprintf("sec k: u8[%d], pub n: u32", k+1)), [][]int{value, {-1}}, want+"\xff\xff\xff\xff", api.OK)
	}
}

// elementsOfAllSorts are elements, with their words' bytes and their lowest bytes.
var elementsOfAllSorts = []struct {
	x          int
	word, byte string
}{
	{0, "\x00\x00\x00\x00", "\x00"}, {1, "\x01\x00\x00\x00", "\x01"}, {127, "\x7f\x00\x00\x00", "\x7f"}, {128, "\x80\x00\x00\x00", "\x80"},
	{255, "\xff\x00\x00\x00", "\xff"}, {256, "\x00\x01\x00\x00", "\x00"}, {257, "\x01\x01\x00\x00", "\x01"}, {65536, "\x00\x00\x01\x00", "\x00"},
	{0x01020304, "\x04\x03\x02\x01", "\x04"}, {1<<31 - 1, "\xff\xff\xff\x7f", "\xff"}, {1 << 31, "\x00\x00\x00\x80", "\x00"},
	{1<<32 - 1, "\xff\xff\xff\xff", "\xff"}, {1 << 32, "\x00\x00\x00\x00", "\x00"}, {1<<32 + 0x1234, "\x34\x12\x00\x00", "\x34"},
	{-1, "\xff\xff\xff\xff", "\xff"}, {-2, "\xfe\xff\xff\xff", "\xfe"}, {-255, "\x01\xff\xff\xff", "\x01"}, {-256, "\x00\xff\xff\xff", "\x00"}, {-257, "\xff\xfe\xff\xff", "\xff"},
	{-1 << 31, "\x00\x00\x00\x80", "\x00"}, {-1<<32 + 3, "\x03\x00\x00\x00", "\x03"}, {math.MaxInt, "\xff\xff\xff\xff", "\xff"}, {math.MinInt, "\x00\x00\x00\x00", "\x00"}, {math.MinInt + 6, "\x06\x00\x00\x00", "\x06"},
}

func TestPackElements(t *testing.T) {
	scalar, words, bytes := fieldsOf(t, "sec n: u32"), fieldsOf(t, "pub n: u32[3]"), fieldsOf(t, "pub n: u8[3]")
	for _, e := range elementsOfAllSorts {
		packs(t, scalar, [][]int{{e.x}}, e.word, api.OK)
		packs(t, words, [][]int{{1, e.x, 2}}, "\x01\x00\x00\x00"+e.word+"\x02\x00\x00\x00", api.OK)
		packs(t, bytes, [][]int{{1, e.x, 2}}, "\x01"+e.byte+"\x02\x00", api.OK)
		packs(t, bytes, [][]int{{1, 2, e.x}}, "\x01\x02"+e.byte+"\x00", api.OK)
	}
}

func TestPackArity(t *testing.T) {
	// One value is left out, told twice, or has one element more or less.
	for k, value := range mixedValues {
		packs(t, mixedFields, slices.Delete(slices.Clone(mixedValues), k, k+1), "", api.ErrArity)
		packs(t, mixedFields, slices.Insert(slices.Clone(mixedValues), k, value), "", api.ErrArity)
		packs(t, mixedFields, mixedValues[:k], "", api.ErrArity)
		for _, other := range [][]int{nil, {}, value[1:], append(slices.Clone(value), 1), append(slices.Clone(value), value...), make([]int, 65536)} {
			v := slices.Clone(mixedValues)
			v[k] = other
			packs(t, mixedFields, v, "", api.ErrArity)
		}
	}
	for _, more := range [][]int{nil, {}, {1}, {1, 2}} {
		packs(t, mixedFields, append(slices.Clone(mixedValues), more), "", api.ErrArity)
		packs(t, mixedFields, append([][]int{more}, mixedValues...), "", api.ErrArity)
		packs(t, fieldsOf(t, "out pub o: u32[1]"), [][]int{more}, "", api.ErrArity)
	}
	packs(t, mixedFields, nil, "", api.ErrArity)
	for _, value := range [][]int{nil, {}, {1, 2}, {1, 2, 3, 4}} {
		packs(t, fieldsOf(t, "pub n: u32"), [][]int{value}, "", api.ErrArity)
		packs(t, fieldsOf(t, "pub n: u32[3]"), [][]int{value}, "", api.ErrArity)
		packs(t, fieldsOf(t, "pub n: u8[3]"), [][]int{value}, "", api.ErrArity)
	}
	// As many elements in all, but not each where it should be.
	two := fieldsOf(t, "pub a: u8[2], sec b: u32[2]")
	packs(t, two, [][]int{{1, 2}, {3, 4}}, "\x01\x02\x00\x00\x03\x00\x00\x00\x04\x00\x00\x00", api.OK)
	packs(t, two, [][]int{{1}, {2, 3, 4}}, "", api.ErrArity)
	packs(t, two, [][]int{{1, 2, 3}, {4}}, "", api.ErrArity)
	packs(t, two, [][]int{{1, 2, 3, 4}}, "", api.ErrArity)
	packs(t, two, [][]int{{1, 2, 3, 4}, {}}, "", api.ErrArity)
	packs(t, two, [][]int{{1}, {2}, {3}, {4}}, "", api.ErrArity)
}

func TestPackErrArgFirst(t *testing.T) {
	l := slices.Clone(mixedFields)
	l[len(l)-1].Size = 5
	for _, v := range [][][]int{nil, {}, {{1}}, mixedValues, mixedValues[1:], append(slices.Clone(mixedValues), nil)} {
		packs(t, l, v, "", api.ErrArg)
		packs(t, []api.Field{{Out: true, Size: 4}}, v, "", api.ErrArg)
	}
}

// mixedOutput is an output of mixed's fields, and mixedOut its values; what is made up behind elements is not 0 here.
const mixedOutput = "\x00\x01\x00\x80\xff\xff\xff\xff" + "\xff\x80\x01\xee" + "\x01\x02\x03\x04\x05\x06\x07\xfe" + "\x01\x02\x03\x04"

var mixedOut = [][]int{{0x80000100, 0xffffffff}, {255, 128, 1}, {1, 2, 3, 4, 5, 6, 7, 254}, {0x04030201}}

func TestUnpack(t *testing.T) {
	unpacks(t, mixedFields, mixedOutput, mixedOut, api.OK)
	unpacks(t, fieldsOf(t, "out pub o: u32[1]"), "\xfe\xff\xff\xff", [][]int{{0xfffffffe}}, api.OK)
	unpacks(t, fieldsOf(t, "pub a: u32, out pub o: u32[1], pub b: u8[9]"), "\x01\x02\x03\x84", [][]int{{0x84030201}}, api.OK)
	unpacks(t, fieldsOf(t, "pub a: u32"), "", nil, api.OK)
	for n := 1; n <= 4; n++ {
		value := []int{1, 0x82, 3, 255}[:n]
		unpacks(t, fieldsOf(t, fmt.Sprintf("out sec o: u8[%d]", n)), "\x01\x82\x03\xff", [][]int{value}, api.OK)
	}
	unpacks(t, fieldsOf(t, "out sec o: u8[5]"), "\x01\x82\x03\xff\x05\x06\x07\x08", [][]int{{1, 0x82, 3, 255, 5}}, api.OK)
	for b := range 256 {
		s := string([]byte{byte(b), byte(b + 1), byte(b + 2), byte(b + 3)})
		unpacks(t, fieldsOf(t, "out pub o: u8[2], out pub w: u32[1]"), s+s, [][]int{{b, (b + 1) % 256}, {b + (b+1)%256<<8 + (b+2)%256<<16 + (b+3)%256<<24}}, api.OK)
	}
}

func TestUnpackOtherLengths(t *testing.T) {
	for n := range 100 {
		s := strings.Repeat("\x01", n)
		if n != 24 {
			unpacks(t, mixedFields, s, nil, api.ErrArg)
		}
		if n != 0 {
			unpacks(t, fieldsOf(t, "pub a: u32[4]"), s, nil, api.ErrArg)
		}
	}
	unpacks(t, mixedFields, mixedInput, nil, api.ErrArg)
	l := fieldsOf(t, "out pub o: u32[16384]")
	unpacks(t, l, strings.Repeat("\x00", 65535), nil, api.ErrArg)
	unpacks(t, l, strings.Repeat("\x00", 65537), nil, api.ErrArg)
	unpacks(t, l, "", nil, api.ErrArg)
	// An array of u8 has what is made up behind it as well.
	for n := range 12 {
		if n != 8 {
			unpacks(t, fieldsOf(t, "out pub o: u8[5]"), strings.Repeat("\x00", n), nil, api.ErrArg)
		}
	}
}

// P15.3

// turned tells bytes of which the one at k is another one.
func turned(s string, k int, by byte) string {
	b := []byte(s)
	b[k] ^= by
	return string(b)
}

func TestAgreeEachByte(t *testing.T) {
	const public = "........" + "pppp" + "...." + "p..." + "pppppppppppp" + "...."
	agrees(t, mixedFields, mixedInput, mixedInput, true)
	for k := range mixedInput {
		for bit := range 8 {
			agrees(t, mixedFields, mixedInput, turned(mixedInput, k, 1<<bit), public[k] == '.')
		}
		agrees(t, mixedFields, turned(mixedInput, k, 3), turned(mixedInput, k, 3), true)
	}
}

func TestAgreeEachType(t *testing.T) {
	for _, k := range kinds {
		for label := range 2 {
			l := spelledLay([]api.Field{{Type: api.Type{Elem: api.TU8, Len: 2}}, {Type: api.Type{Elem: k.elem, Len: k.len, Label: label}}})
			if k.size == 65536 {
				l = spelledLay(l[1:])
			}
			in, _ := Sizes(l)
			s := strings.Repeat("a", in)
			for n, public := range spelledPublic(l) {
				if n < 50 || n > in-50 {
					agrees(t, l, s, turned(s, n, 1), !public)
				}
			}
		}
	}
}

func TestAgreeByHand(t *testing.T) {
	l := fieldsOf(t, "pub n: u32, sec k: u8[5]")
	agrees(t, l, "abcdefghijkl", "abcdEFGHIJKL", true)
	agrees(t, l, "abcdefghijkl", "abcDefghijkl", false)
	agrees(t, l, "abcdefghijkl", "bacdefghijkl", false)
	l = fieldsOf(t, "sec n: u32, pub k: u8[5]")
	agrees(t, l, "abcdefghijkl", "ABCDefghiJKL", true)
	agrees(t, l, "abcdefghijkl", "ABCDefghIJKL", false)
	agrees(t, l, "abcdefghijkl", "ABCDEfghijkl", false)
	// What goes out is not in the input, be it public or not.
	l = fieldsOf(t, "out pub o: u32[3], sec n: u32, pub k: u32")
	agrees(t, l, "abcdefgh", "ABCDefgh", true)
	agrees(t, l, "abcdefgh", "abcdEfgh", false)
	l = fieldsOf(t, "out sec o: u32[3], pub n: u32, sec k: u32")
	agrees(t, l, "abcdefgh", "ABCDefgh", false)
	agrees(t, l, "abcdefgh", "abcdEfgh", true)
	l = fieldsOf(t, "out pub o: u32[1]")
	agrees(t, l, "", "", true)
	agrees(t, l, "abcd", "abcd", false)
	// All secret, all public.
	agrees(t, fieldsOf(t, "sec a: u32[2]"), "abcdefgh", "12345678", true)
	agrees(t, fieldsOf(t, "pub a: u32[2]"), "abcdefgh", "12345678", false)
	// Each field by itself, the first, one between and the last one.
	l = fieldsOf(t, "pub a: u32, pub b: u32, pub c: u32")
	for k := range 12 {
		agrees(t, l, "abcdefghijkl", turned("abcdefghijkl", k, 0x80), false)
	}
}

func TestAgreeOtherLengths(t *testing.T) {
	for a := range 50 {
		for b := range 50 {
			agrees(t, mixedFields, strings.Repeat("x", a), strings.Repeat("x", b), a == 36 && b == 36)
			agrees(t, fieldsOfWords, strings.Repeat("x", a), strings.Repeat("x", b), a == 8 && b == 8)
		}
	}
	agrees(t, mixedFields, mixedInput, mixedInput[:35], false)
	agrees(t, mixedFields, mixedInput, mixedInput+"\x00", false)
	agrees(t, mixedFields, mixedInput+"\x00", mixedInput+"\x00", false)
	agrees(t, mixedFields, mixedInput[:35], mixedInput[:35], false)
	agrees(t, mixedFields, mixedInput, "", false)
}

// fieldsOfWords are two scalars, both secret, so that lengths alone matter.
var fieldsOfWords = []api.Field{{Type: api.Type{Label: api.Sec}, Size: 4}, {Type: api.Type{Label: api.Sec}, Off: 4, Size: 4}}

func TestAgreeOfWhatMayNotBe(t *testing.T) {
	l := slices.Clone(fieldsOfWords)
	agrees(t, l, "abcdefgh", "abcdefgh", true)
	l[1].Type.Label = 2
	agrees(t, l, "abcdefgh", "abcdefgh", false)
	l[1].Type.Label = api.Sec
	l[1].Off = 0
	agrees(t, l, "abcdefgh", "abcdefgh", false)
	agrees(t, l, "abcd", "abcd", false)
	agrees(t, []api.Field{{Out: true, Size: 4}}, "", "", false)
}

// P15.4

// outwards tells fields that go out and lie as those that go in do: a scalar is an array of one.
func outwards(l []api.Field) []api.Field {
	var o []api.Field
	for _, f := range l {
		if !f.Out {
			f.Out, f.Type.Len = true, max(f.Type.Len, 1)
			o = append(o, f)
		}
	}
	return o
}

// readBack fails if what is packed is not read as it was.
func readBack(t *testing.T, l []api.Field, v [][]int) {
	t.Helper()
	s, err := Pack(l, v)
	if err != api.OK {
		t.Fatalf("Pack(%s, %s): error %d", short(l), short(v), err)
	}
	got, err := Unpack(outwards(l), s)
	if err != api.OK || len(got) != len(v) {
		t.Fatalf("Unpack(%s): %d values, error %d", short(outwards(l)), len(got), err)
	}
	k := 0
	for _, f := range l {
		if f.Out {
			continue
		}
		place := s[f.Off : f.Off+f.Size]
		for j, x := range v[k] {
			want := int(uint32(x))
			if f.Type.Elem == api.TU8 {
				want = int(uint8(x))
			}
			if got[k][j] != want {
				t.Errorf("element %d of field %d of %s: %d, was %d", j, k, short(l), got[k][j], x)
			}
		}
		if behind := place[spelledBytes(f.Type):]; strings.Trim(behind, "\x00") != "" {
			t.Errorf("made up behind field %d of %s: %x", k, short(l), behind)
		}
		// Read by itself, its place tells it as well.
		alone := spelledLay(outwards([]api.Field{f}))
		unpacks(t, alone, place, [][]int{got[k]}, api.OK)
		k++
	}
}

func TestBack(t *testing.T) {
	readBack(t, mixedFields, mixedValues)
	for _, e := range elementsOfAllSorts {
		readBack(t, fieldsOf(t, "pub a: u32, sec b: u8[1], pub c: u32[2], sec d: u8[6]"), [][]int{{e.x}, {e.x}, {e.x, e.x}, {e.x, e.x, e.x, e.x, e.x, e.x}})
	}
	r := rand.New(rand.NewPCG(15, 4))
	for _, x := range full {
		l := fieldsOf(t, x.params)
		readBack(t, l, someValues(r, l))
	}
	for _, k := range kinds {
		l := spelledLay([]api.Field{{Type: api.Type{Elem: k.elem, Len: k.len}}})
		readBack(t, l, someValues(r, l))
	}
}

// Chance.

func TestOfPrograms(t *testing.T) {
	r := rand.New(rand.NewPCG(15, 1))
	for range 2000 {
		want := someFields(r)
		in, out, may := spelledSizes(want)
		p := api.Program{Funcs: []api.Func{{Name: "main"}}}
		for _, f := range want {
			p.Funcs[0].Params = append(p.Funcs[0].Params, api.Param{Pos: r.IntN(100), Name: f.Name, Type: f.Type, Out: f.Out})
		}
		if !may {
			refusedOf(t, short(want), p, api.ErrLimit)
			continue
		}
		has(t, p, want)
		sized(t, want, in, out)
	}
}

func TestFieldsOfChance(t *testing.T) {
	r := rand.New(rand.NewPCG(15, 2))
	taken := 0
	for range 20000 {
		l := someFields(r)
		for range r.IntN(3) {
			if len(l) > 0 {
				spoilField(r, &l[r.IntN(len(l))])
			}
			if r.IntN(2) == 0 {
				l = spelledLay(l)
			}
		}
		in, out, may := spelledSizes(l)
		if !may {
			refused(t, "chance", l)
			continue
		}
		taken++
		sized(t, l, in, out)
	}
	if taken < 5000 || taken > 15000 {
		t.Errorf("%d of 20000 lists of fields may be", taken)
	}
}

func TestBytesOfChance(t *testing.T) {
	r := rand.New(rand.NewPCG(15, 3))
	for range 4000 {
		l := someFields(r)
		in, out, may := spelledSizes(l)
		v := someValues(r, l)
		if k := r.IntN(len(v) + 1); r.IntN(4) == 0 && k < len(v) {
			v[k] = append(v[k], 1)[r.IntN(3):]
		}
		want, err := spelledPack(l, v)
		packs(t, l, v, want, err)
		if may && err == api.OK {
			readBack(t, l, v)
		}
		s := someBytes(r, max(0, out-r.IntN(4)/3))
		values, err := spelledUnpack(l, s)
		unpacks(t, l, s, values, err)
		a := someBytes(r, in)
		b := a
		for range r.IntN(3) {
			if in > 0 {
				b = turned(b, r.IntN(in), byte(r.IntN(256)))
			}
		}
		agrees(t, l, a, b, spelledAgree(l, a, b))
	}
}

// What holds in every layer.

// room tells a list with other things behind its end, and fails at the end of a test if one of them, or the list, was changed.
func room[T any](t *testing.T, l []T, behind T) []T {
	t.Helper()
	whole := append(slices.Clone(l), behind, behind, behind)
	was := fmt.Sprint(whole)
	t.Cleanup(func() {
		if now := fmt.Sprint(whole); now != was {
			t.Errorf("%s was changed to %s", was, now)
		}
	})
	return whole[:len(l)]
}

func TestHandedInStaysAsItWas(t *testing.T) {
	l := room(t, mixedFields, api.Field{Name: "behind", Off: 77})
	v := room(t, mixedValues, []int{77})
	for k := range v {
		v[k] = room(t, mixedValues[k], 77)
	}
	p := parsed(t, "fn f() { } fn main("+mixed+") { }")
	was := fmt.Sprintf("%+v", p)
	for range 3 {
		packs(t, l, v, mixedInput, api.OK)
		packs(t, l, v[1:], "", api.ErrArity)
		unpacks(t, l, mixedOutput, mixedOut, api.OK)
		agrees(t, l, mixedInput, mixedInput, true)
		sized(t, l, 36, 24)
		has(t, p, mixedFields)
	}
	if now := fmt.Sprintf("%+v", p); now != was {
		t.Errorf("the program was changed: %s", now)
	}
}

func TestAnswersAreNewMemory(t *testing.T) {
	p := parsed(t, "fn main("+mixed+") { }")
	l, _ := Of(p)
	for k := range l {
		if unsafe.StringData(l[k].Name) == unsafe.StringData(p.Funcs[0].Params[k].Name) {
			t.Errorf("the name %s is the program's memory", l[k].Name)
		}
	}
	spoilAll(l, api.Field{Name: "spoiled"})
	has(t, p, mixedFields)
	v, _ := Unpack(mixedFields, mixedOutput)
	for k := range v {
		spoilAll(v[k], 77)
		for j := k + 1; j < len(v); j++ {
			if !slices.Equal(v[j], mixedOut[j]) {
				t.Errorf("list %d shares memory with list %d", j, k)
			}
		}
	}
	spoilAll(v, nil)
	unpacks(t, mixedFields, mixedOutput, mixedOut, api.OK)
}

// spoilAll writes over a list, and over all room behind it.
func spoilAll[T any](l []T, with T) {
	l = l[:cap(l)]
	for k := range l {
		l[k] = with
	}
}
