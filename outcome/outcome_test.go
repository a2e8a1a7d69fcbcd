package outcome

import (
	"fmt"
	"math"
	"reflect"
	"strings"
	"testing"
	"unsafe"

	"hauberk/api"
	"hauberk/image"
	"hauberk/machine"
	"hauberk/thumb"
)

// The words that tell of a run, by the document's own numbers.
const (
	magic   = 0xc0de600d
	aborted = 0x0bad0bad
)

// numbers are commit words and status words: 0, those that tell something, numbers next to them, with one bit turned, with others in their lowest 32 bits' place or above them, and far ones.
var numbers = []int{
	0, magic, aborted, 1, 2, -1, magic - 1, magic + 1, aborted - 1, aborted + 1,
	magic ^ 1<<31, magic ^ 1<<16, aborted ^ 1<<31, aborted ^ 1<<16, 1 << 31, 1<<32 - 1, magic &^ 0xffff, magic & 0xffff, aborted &^ 0xffff, aborted & 0xffff,
	-magic, -aborted, magic - 1<<32, magic + 1<<32, aborted - 1<<32, aborted + 1<<32, 1 << 32, 0x0d60dec0, 0xad0bad0b, 0xf23f9ff2, 0xf452f452, math.MinInt, math.MaxInt,
}

// outputs are outputs: none, of nothing but 0, and others.
var outputs = []string{"", "abcd", "\x00", "\x00\x00\x00\x00", "\x00\x00\x00\x01", "\xff", "\x0d\x60\xde\xc0", "\xad\x0b\xad\x0b", strings.Repeat("xyz\xfe", 16384)}

// meant fails if Of does not tell that kind and that output.
func meant(t *testing.T, r api.Result, kind int, out string) {
	t.Helper()
	if o := Of(r); o.Kind != kind || o.Out != out {
		t.Errorf("Of(halted %v, commit %#x, status %#x, %d bytes of output) = kind %d, %d bytes, want kind %d, %d bytes", r.Halted, r.Commit, r.Status, len(r.Out), o.Kind, len(o.Out), kind, len(out))
	}
}

// wiped fails if Wiped does not tell that.
func wiped(t *testing.T, r api.Result, want bool) {
	t.Helper()
	if got := Wiped(r); got != want {
		t.Errorf("Wiped(halted %v, commit %#x, output %d, rails %d and %d bytes) = %v, want %v", r.Halted, r.Commit, len(r.Out), len(r.A), len(r.B), got, want)
	}
}

// same fails if Same does not tell that, whichever of the two stands first.
func same(t *testing.T, a, b api.Result, want bool) {
	t.Helper()
	if got := Same(a, b); got != want {
		t.Errorf("Same(%q, %q) = %v, want %v", short(a), short(b), got, want)
	}
	if got := Same(b, a); got != want {
		t.Errorf("Same(%q, %q) = %v, want %v", short(b), short(a), got, want)
	}
}

// short tells a result whose strings can be told.
func short(r api.Result) string {
	for _, s := range []*string{&r.Out, &r.A, &r.B} {
		*s = (*s)[:min(len(*s), 16)]
	}
	return fmt.Sprintf("%+v", r)
}

// slack fails if Slack does not tell that number.
func slack(t *testing.T, s api.Sizes, want int) {
	t.Helper()
	if got := Slack(s); got != want {
		t.Errorf("Slack(%+v) = %d, want %d", s, got, want)
	}
}

// nought tells n bytes, all of them 0.
func nought(n int) string { return strings.Repeat("\x00", n) }

// The constants of the chapter's head, and its example.

func TestConstants(t *testing.T) {
	if Endless != 0 || Released != 1 || Aborted != 2 || Stopped != 3 {
		t.Errorf("%d, %d, %d, %d, want 0, 1, 2, 3", Endless, Released, Aborted, Stopped)
	}
	// They are plain numbers, without a type of their own.
	var _ = []byte{Endless, Released, Aborted, Stopped}
}

func TestExample(t *testing.T) {
	meant(t, api.Result{Halted: true, Commit: 0xc0de600d, Out: "abcd"}, Released, "abcd")
	slack(t, api.Sizes{In: 4, Out: 8, Rail: 12}, 1280)
}

// P10.1

func TestEachKind(t *testing.T) {
	for _, out := range []string{"", "abcd"} {
		for _, x := range []struct {
			halted         bool
			commit, status int
			want           int
		}{
			{false, 0, 0, Endless}, {false, magic, 0, Endless}, {false, 0, aborted, Endless}, {false, magic, aborted, Endless},
			{false, magic - 1, aborted + 1, Endless},
			{true, magic, 0, Released}, {true, magic, aborted, Released}, {true, magic, aborted - 1, Released}, {true, magic, aborted + 1, Released},
			{true, magic, magic, Released}, {true, magic, -1, Released},
			{true, 0, aborted, Aborted}, {true, magic - 1, aborted, Aborted}, {true, magic + 1, aborted, Aborted}, {true, aborted, aborted, Aborted},
			{true, 1, aborted, Aborted}, {true, -1, aborted, Aborted},
			{true, 0, 0, Stopped}, {true, 0, aborted - 1, Stopped}, {true, 0, aborted + 1, Stopped}, {true, magic - 1, 0, Stopped},
			{true, magic + 1, 0, Stopped}, {true, aborted, magic, Stopped}, {true, 0, magic, Stopped}, {true, magic + 1, aborted + 1, Stopped},
		} {
			r := api.Result{Halted: x.halted, Commit: x.commit, Status: x.status, Out: out}
			if x.want == Released {
				meant(t, r, x.want, out)
			} else {
				meant(t, r, x.want, "")
			}
		}
	}
}

// spelled tells Of's answer by the document's own words.
func spelled(r api.Result) Outcome {
	endless := !r.Halted
	released := !endless && r.Commit == magic
	abort := !endless && !released && r.Status == aborted
	switch {
	case endless:
		return Outcome{Kind: 0}
	case released:
		return Outcome{Kind: 1, Out: r.Out}
	case abort:
		return Outcome{Kind: 2}
	}
	return Outcome{Kind: 3}
}

func TestKindsTogether(t *testing.T) {
	for _, halted := range []bool{false, true} {
		for _, commit := range numbers {
			for _, status := range numbers {
				for _, out := range outputs {
					r := api.Result{Halted: halted, Commit: commit, Status: status, Out: out}
					want := spelled(r)
					meant(t, r, want.Kind, want.Out)
				}
			}
		}
	}
}

func TestEachBitOfTheWords(t *testing.T) {
	for k := range 64 {
		meant(t, api.Result{Halted: true, Commit: magic ^ 1<<k, Status: aborted, Out: "abcd"}, Aborted, "")
		meant(t, api.Result{Halted: true, Commit: magic ^ 1<<k, Out: "abcd"}, Stopped, "")
		meant(t, api.Result{Halted: true, Status: aborted ^ 1<<k, Out: "abcd"}, Stopped, "")
		meant(t, api.Result{Halted: true, Commit: magic, Status: aborted ^ 1<<k, Out: "abcd"}, Released, "abcd")
	}
}

func TestWhatDoesNotMatterToOf(t *testing.T) {
	for _, halted := range []bool{false, true} {
		for _, commit := range []int{0, magic} {
			for _, status := range []int{0, aborted} {
				for _, n := range numbers {
					for _, s := range outputs {
						r := api.Result{Halted: halted, Commit: commit, Status: status, Out: "abcd", Steps: n, Cycles: -n, Handled: n, A: s, B: s + "x"}
						want := spelled(r)
						meant(t, r, want.Kind, want.Out)
					}
				}
			}
		}
	}
}

func TestOutputsOfAnyBytes(t *testing.T) {
	for k := range 256 {
		for _, out := range []string{string([]byte{byte(k)}), "\x00" + string([]byte{byte(k)}) + "\x00", strings.Repeat(string([]byte{byte(k)}), 65536)} {
			meant(t, api.Result{Halted: true, Commit: magic, Out: out}, Released, out)
			meant(t, api.Result{Halted: true, Status: aborted, Out: out}, Aborted, "")
		}
	}
}

func TestOutputIsNewMemory(t *testing.T) {
	r := api.Result{Halted: true, Commit: magic, Out: strings.Repeat("abcd", 4)}
	if unsafe.StringData(Of(r).Out) == unsafe.StringData(r.Out) {
		t.Error("Of's output is the memory that was handed in")
	}
}

// P10.2

func TestWipedNothing(t *testing.T) {
	wiped(t, api.Result{}, true)
	wiped(t, api.Result{Halted: true}, true)
	for _, n := range []int{1, 2, 3, 4, 7, 8, 65532, 65536} {
		wiped(t, api.Result{Out: nought(n), A: nought(n), B: nought(n)}, true)
		wiped(t, api.Result{Out: nought(n)}, true)
		wiped(t, api.Result{A: nought(n)}, true)
		wiped(t, api.Result{B: nought(n)}, true)
		wiped(t, api.Result{A: nought(n), B: nought(4)}, true)
	}
}

func TestWipedCommit(t *testing.T) {
	for _, n := range numbers {
		wiped(t, api.Result{Halted: true, Commit: n, Status: aborted, Out: nought(4), A: nought(8), B: nought(8)}, n == 0)
		wiped(t, api.Result{Commit: n}, n == 0)
	}
	for k := range 64 {
		wiped(t, api.Result{Halted: true, Commit: 1 << k, Out: nought(4), A: nought(8), B: nought(8)}, false)
	}
}

// placed tells a result with s as output (0) or as one of the rails (1, 2), and n bytes of 0 as the other ones.
func placed(where int, s string, n int) api.Result {
	r := api.Result{Halted: true, Out: nought(n), A: nought(n), B: nought(n)}
	*[]*string{&r.Out, &r.A, &r.B}[where] = s
	return r
}

// marked tells n bytes, of which the one at k is b, and all others are 0.
func marked(n, k int, b byte) string { return nought(k) + string([]byte{b}) + nought(n-k-1) }

func TestWipedEachPlace(t *testing.T) {
	for where := range 3 {
		for _, n := range []int{1, 2, 3, 4, 5, 8, 12, 36} {
			for k := range n {
				for _, b := range []byte{1, 0x0a, ' ', '0', 0x7f, 0x80, 0xc0, 0xff} {
					wiped(t, placed(where, marked(n, k, b), n), false)
				}
				wiped(t, placed(where, marked(n, k, 0), n), true)
			}
		}
	}
}

func TestWipedOfTheGreatest(t *testing.T) {
	const n = 65536
	for where := range 3 {
		for _, k := range []int{0, 1, 3, 4, 255, 256, n/2 - 1, n / 2, n - 5, n - 4, n - 2, n - 1} {
			wiped(t, placed(where, marked(n, k, 1), n), false)
			wiped(t, placed(where, marked(n, k, 0x80), 0), false)
		}
		wiped(t, placed(where, nought(n), 0), true)
		wiped(t, placed(where, "", n), true)
	}
}

func TestWipedEachByte(t *testing.T) {
	for where := range 3 {
		for b := range 256 {
			wiped(t, placed(where, marked(4, 2, byte(b)), 4), b == 0)
			// Two bytes whose sum, or whose bits together, are 0 again.
			wiped(t, placed(where, string([]byte{byte(b), byte(-b)}), 2), b == 0)
			wiped(t, placed(where, string([]byte{byte(b), byte(b)}), 2), b == 0)
		}
	}
	// Rails that are alike, or make up for each other, are not wiped for that.
	wiped(t, api.Result{A: "\x01", B: "\x01"}, false)
	wiped(t, api.Result{A: "\x01", B: "\xff", Out: "\x00"}, false)
}

func TestWhatDoesNotMatterToWiped(t *testing.T) {
	for _, n := range numbers {
		for _, halted := range []bool{false, true} {
			r := api.Result{Halted: halted, Status: n, Steps: n, Cycles: n, Handled: n, Out: nought(4), A: nought(8), B: nought(8)}
			wiped(t, r, true)
			r.B = "\x00\x00\x00\x01"
			wiped(t, r, false)
		}
	}
}

// someResults are results that may be held against others.
var someResults = []api.Result{
	{}, {Halted: true}, {Halted: true, Commit: magic, Out: "abcd", A: "efgh", B: "efgh", Steps: 5, Cycles: 9},
	{Halted: true, Status: aborted, Out: "\x00\x00", A: "\x00", B: "\x00", Handled: 1}, {Commit: 1, Status: 2, Out: "x", Steps: 3},
}

func TestSameOfItself(t *testing.T) {
	for k, a := range someResults {
		for l, b := range someResults {
			same(t, a, b, k == l)
		}
	}
	// The bytes matter, and not where they lie.
	same(t, api.Result{Out: strings.Repeat("ab", 2)}, api.Result{Out: "ab" + strings.Repeat("ab", 1)}, true)
}

func TestSameInNumbers(t *testing.T) {
	for _, a := range someResults {
		for _, n := range numbers {
			b := a
			b.Commit = n
			same(t, a, b, n == a.Commit)
			b = a
			b.Status = n
			same(t, a, b, n == a.Status)
		}
		for k := range 64 {
			b := a
			b.Commit ^= 1 << k
			same(t, a, b, false)
			b = a
			b.Status ^= 1 << k
			same(t, a, b, false)
			b.Status, b.Commit = a.Status, a.Commit
			same(t, a, b, true)
		}
	}
	// One word in the place of the other, and words that make up for each other.
	same(t, api.Result{Commit: 1, Status: 2}, api.Result{Commit: 2, Status: 1}, false)
	same(t, api.Result{Commit: 3, Status: 3}, api.Result{Commit: 4, Status: 2}, false)
}

func TestSameInOutputs(t *testing.T) {
	for _, a := range someResults {
		for _, out := range outputs {
			b := a
			b.Out = out
			same(t, a, b, out == a.Out)
		}
		b := a
		b.Out = a.Out + "\x00"
		same(t, a, b, false)
	}
	for k := range 12 {
		same(t, api.Result{Out: nought(12)}, api.Result{Out: marked(12, k, 1)}, false)
		same(t, api.Result{Out: "abcdefghijkl"}, api.Result{Out: "abcdefghijkl"[:k]}, false)
	}
	for _, k := range []int{0, 32768, 65535} {
		same(t, api.Result{Out: nought(65536)}, api.Result{Out: marked(65536, k, 0x80)}, false)
	}
	same(t, api.Result{Out: nought(65536)}, api.Result{Out: nought(65536)}, true)
}

func TestSameInHalted(t *testing.T) {
	for _, a := range someResults {
		b := a
		b.Halted = !a.Halted
		same(t, a, b, false)
	}
}

func TestSameMattersNot(t *testing.T) {
	for _, a := range someResults {
		for _, n := range numbers {
			b := a
			b.Steps = n
			same(t, a, b, true)
			b = a
			b.Cycles = n
			same(t, a, b, true)
			b = a
			b.Handled = n
			same(t, a, b, true)
		}
		for _, s := range outputs {
			b := a
			b.A = s
			same(t, a, b, true)
			b = a
			b.B = s
			same(t, a, b, true)
		}
	}
}

// TestEachField changes each field alone, whichever there are: a field that comes to be later is not forgotten here.
func TestEachField(t *testing.T) {
	matters := map[string]bool{"Halted": true, "Commit": true, "Status": true, "Out": true, "Steps": false, "Cycles": false, "Handled": false, "A": false, "B": false}
	kind := reflect.TypeFor[api.Result]()
	for k := range kind.NumField() {
		name := kind.Field(k).Name
		want, known := matters[name]
		if !known {
			t.Fatalf("field %s is not known here", name)
		}
		for _, a := range someResults {
			b := a
			f := reflect.ValueOf(&b).Elem().Field(k)
			switch f.Kind() {
			case reflect.Bool:
				f.SetBool(!f.Bool())
			case reflect.Int:
				f.SetInt(f.Int() + 1)
			case reflect.String:
				f.SetString(f.String() + "z")
			}
			if a == b {
				t.Fatalf("field %s was not changed", name)
			}
			same(t, a, b, !want)
		}
	}
}

// P10.3

// set tells sizes of which one (0 In, 1 Out, 2 Rail) is n.
func set(s api.Sizes, which, n int) api.Sizes {
	*[]*int{&s.In, &s.Out, &s.Rail}[which] = n
	return s
}

// spelledSlack tells Slack's answer by the document's own words.
func spelledSlack(s api.Sizes) int {
	for _, n := range []int{s.In, s.Out, s.Rail} {
		if n < 0 || n > 65536 || n != n/4*4 {
			return 0
		}
	}
	if s.Rail < 4 {
		return 0
	}
	n := 256
	for _, region := range []int{s.Out, s.Rail, s.Rail} {
		n += 32 * region
	}
	return n
}

func TestSlack(t *testing.T) {
	slack(t, api.Sizes{Rail: 4}, 512)
	slack(t, api.Sizes{Rail: 8}, 768)
	slack(t, api.Sizes{Out: 4, Rail: 4}, 640)
	slack(t, api.Sizes{In: 4, Out: 4, Rail: 4}, 640)
	slack(t, api.Sizes{In: 65536, Out: 4, Rail: 4}, 640)
	slack(t, api.Sizes{Out: 65536, Rail: 4}, 2097664)
	slack(t, api.Sizes{Rail: 65536}, 4194560)
	slack(t, api.Sizes{In: 65536, Out: 65536, Rail: 65536}, 6291712)
	slack(t, api.Sizes{Out: 65536, Rail: 65536}, 6291712)
	slack(t, api.Sizes{In: 65532, Out: 65532, Rail: 65532}, 6291328)
}

func TestSlackOfNone(t *testing.T) {
	slack(t, api.Sizes{}, 0)
	slack(t, api.Sizes{In: 4}, 0)
	slack(t, api.Sizes{Out: 4}, 0)
	slack(t, api.Sizes{In: 65536, Out: 65536}, 0)
}

func TestSlackOfWhatMayNotBe(t *testing.T) {
	for which := range 3 {
		for _, n := range []int{
			math.MinInt, math.MinInt + 1, math.MinInt + 4, -1<<32 + 4, -1 << 32, -65536, -8, -4, -3, -2, -1, 1, 2, 3, 5, 6, 7,
			65533, 65534, 65535, 65537, 65538, 65539, 65540, 65544, 131072, 262144, 1 << 32, 1<<32 + 4, 1 << 57, 1 << 58, 1<<58 + 4, 1 << 59, 1 << 62, math.MaxInt - 3, math.MaxInt,
		} {
			for _, s := range []api.Sizes{{In: 4, Out: 4, Rail: 4}, {In: 65536, Out: 65536, Rail: 65536}} {
				slack(t, set(s, which, n), 0)
			}
		}
	}
}

func TestSlackOfAllThatMayBe(t *testing.T) {
	for n := 0; n <= 65536; n += 4 {
		for which := range 3 {
			s := set(api.Sizes{In: 8, Out: 16, Rail: 12}, which, n)
			slack(t, s, spelledSlack(s))
		}
		s := api.Sizes{In: n, Out: n, Rail: n}
		slack(t, s, spelledSlack(s))
		for k := 1; k < 4; k++ {
			slack(t, api.Sizes{In: n + k, Out: n, Rail: n}, 0)
			slack(t, api.Sizes{In: n, Out: n + k, Rail: n}, 0)
			slack(t, api.Sizes{In: n, Out: n, Rail: n + k}, 0)
		}
	}
}

func TestSizesTogether(t *testing.T) {
	some := []int{math.MinInt, -65536, -4, -1, 0, 1, 3, 4, 6, 8, 12, 32768, 65532, 65535, 65536, 65537, 65540, 1 << 32, math.MaxInt - 3, math.MaxInt}
	for _, in := range some {
		for _, out := range some {
			for _, rail := range some {
				s := api.Sizes{In: in, Out: out, Rail: rail}
				slack(t, s, spelledSlack(s))
			}
		}
	}
}

// Of results that runs leave.

// stores tells the instructions that store a number at an address.
func stores(addr, n int) []api.Ins {
	return []api.Ins{
		{Op: api.OMovw, Rd: 1, Imm: addr % 65536}, {Op: api.OMovt, Rd: 1, Imm: addr / 65536},
		{Op: api.OMovw, Rd: 0, Imm: n % 65536}, {Op: api.OMovt, Rd: 0, Imm: n / 65536}, {Op: api.OStr, Rn: 1},
	}
}

// ran tells what a run of those instructions, and OBkpt behind them, leaves.
func ran(t *testing.T, s api.Sizes, f api.Fault, budget int, l ...[]api.Ins) api.Result {
	t.Helper()
	code := ""
	for _, p := range append(l, []api.Ins{{Op: api.OBkpt}}) {
		for _, i := range p {
			b, e := thumb.Encode(i)
			if e != api.OK {
				t.Fatalf("%+v is no instruction: %d", i, e)
			}
			code += b
		}
	}
	img, e := image.Build(image.Head{Reset: 64, Handler: 64, Sizes: s}, code)
	if e != api.OK {
		t.Fatalf("Build: refused: %d", e)
	}
	r, e := machine.Run(img, "", f, budget)
	if e != api.OK {
		t.Fatalf("Run: refused: %d", e)
	}
	return r
}

func TestRuns(t *testing.T) {
	s := api.Sizes{Out: 8, Rail: 12}
	output, commit, status := stores(0x20020004, 0x64636261), stores(0x20100000, magic), stores(0x20200000, aborted)
	none := api.Fault{}

	released := ran(t, s, none, 100, output, commit)
	meant(t, released, Released, "\x00\x00\x00\x00abcd")
	wiped(t, released, false)
	same(t, released, ran(t, s, none, 100, commit, stores(0x20040008, 5), output), true)

	abort := ran(t, s, none, 100, status)
	meant(t, abort, Aborted, "")
	wiped(t, abort, true)
	same(t, abort, released, false)

	meant(t, ran(t, s, none, 100, status, commit), Released, nought(8))
	meant(t, ran(t, s, none, 100, output), Stopped, "")
	meant(t, ran(t, s, none, 10, output, commit), Endless, "")
	wiped(t, ran(t, s, none, 0, output), true)
	meant(t, ran(t, s, api.Fault{Kind: api.FSkip, Step: 9}, 100, output, commit), Stopped, "")
	meant(t, ran(t, s, api.Fault{Kind: api.FFlip, Step: 9, Bit: 31}, 100, output, commit), Stopped, "")

	for _, addr := range []int{0x20020000, 0x20020004, 0x20040000, 0x20040008, 0x20080000, 0x20080008, 0x20100000} {
		wiped(t, ran(t, s, none, 100, status, stores(addr, 1<<31)), false)
		wiped(t, ran(t, s, none, 100, stores(addr, 1<<31), stores(addr, 0), status), true)
	}
}

func TestRunsOfTheGreatest(t *testing.T) {
	s := api.Sizes{Out: 65536, Rail: 65536}
	none := api.Fault{}
	wiped(t, ran(t, s, none, 100), true)
	for _, addr := range []int{0x20020000, 0x2002fffc, 0x20040000, 0x2004fffc, 0x20080000, 0x2008fffc} {
		wiped(t, ran(t, s, none, 100, stores(addr, 1<<31)), false)
	}
}
