package types

import (
	"fmt"
	"math/rand/v2"
	"reflect"
	"slices"
	"strings"
	"testing"

	"hauberk/api"
	"hauberk/prose"
	"hauberk/syntax"
)

// mark stands in a text where an error is told.
const mark = "@"

// parsed tells the program of a text and the place of the mark in it; 0, if there is none.
func parsed(t *testing.T, text string) (api.Program, int) {
	t.Helper()
	at := max(0, strings.Index(text, mark))
	p, bad := syntax.Parse(strings.Replace(text, mark, "", 1))
	if bad.Err != api.OK {
		t.Fatalf("%s: not parsed: %v", text, bad)
	}
	return p, at
}

// told fails, if Check does not tell such an error at the mark of a text, or Cost tells anything beside it.
func told(t *testing.T, text string, err api.Errno) {
	t.Helper()
	p, at := parsed(t, text)
	if got, want := Check(p), (api.Bad{Err: err, Pos: at}); got != want {
		t.Errorf("%s: told %v, wanted %v", text, got, want)
	}
	if n := Cost(p); (n > 0) != (err == api.OK) {
		t.Errorf("%s: error %d, but it costs %d", text, err, n)
	}
}

// told0 fails likewise, if it is not told at the beginning of the text.
func told0(t *testing.T, text string, err api.Errno) {
	t.Helper()
	told(t, mark+text, err)
}

// prelude are functions and names of all sorts: p and s are handed in, v and m are made by var, ends in p are public, in s secret ones.
const prelude = `
fn none() { }
fn open(pub a: u32): pub u32 { return a; }
fn shut(sec a: u32): sec u32 { return a; }
fn tell(pub m: mask): pub mask { return m; }
fn hide(sec m: mask): sec mask { return m; }
fn two(pub a: u32, sec m: mask): pub u32 { return a; }
fn read(sec l: u32[4]) { }
fn look(pub l: u32[4]) { }
fn eat(sec l: u8[4]) { }
fn taste(pub l: u8[4]) { }
fn fill(out sec l: u32[4]) { }
fn show(out pub l: u32[4]) { }
fn pour(out sec l: u8[4]) { }
fn mix(pub l: u32[4], out sec k: u32[4], pub n: u32): pub u32 { return n + l[0]; }
fn main(pub p: u32, sec s: u32, pub ip: u32[4], sec is: u32[4], pub bp: u8[4], sec bs: u8[4], out pub op: u32[4], out sec os: u32[4], out pub cp: u8[4], out sec cs: u8[4]) {
 let pm = p == 0; let sm = s == 0; let np = p; let ns = s;
 var pub vp: u32; var sec vs: u32; var pub mp: mask; var sec ms: mask;
 var pub lp: u32[4]; var sec ls: u32[4]; var pub dp: u8[4]; var sec ds: u8[4];
`

// in tells a text with statements behind the prelude.
func in(statements string) string { return prelude + statements + "\n}\n" }

// row is statements with a mark, and the error at it.
type row struct {
	text string
	err  api.Errno
}

// rows are told one by one, behind the prelude.
func rows(t *testing.T, l []row) {
	t.Helper()
	for _, x := range l {
		if (x.err == api.OK) == strings.Contains(x.text, mark) {
			t.Errorf("%s: a mark stands where there is an error", x.text)
		}
		told(t, in(x.text), x.err)
	}
}

// wholes are told one by one, each a program of its own.
func wholes(t *testing.T, l []row) {
	t.Helper()
	for _, x := range l {
		told(t, x.text, x.err)
	}
}

// sort is what a value is made of, n or m, and whether it is secret.
type sort struct {
	elem   byte
	secret bool
}

// sorts are all of them.
var sorts = []sort{{'n', false}, {'n', true}, {'m', false}, {'m', true}}

// sample tells the name of the prelude that has such a value.
func (s sort) sample() string {
	return map[sort]string{sorts[0]: "p", sorts[1]: "s", sorts[2]: "pm", sorts[3]: "sm"}[s]
}

// sortOf tells of which sort an expression's value is, by where it may be put; the error, if it is amiss itself.
func sortOf(t *testing.T, x string) (sort, api.Errno) {
	t.Helper()
	put := func(name string) api.Errno {
		p, _ := parsed(t, in(name+" = "+x+";"))
		return Check(p).Err
	}
	fits := []bool{put("vp") == api.OK, put("vs") == api.OK, put("mp") == api.OK, put("ms") == api.OK}
	for k, wanted := range [][]bool{{true, true, false, false}, {false, true, false, false}, {false, false, true, true}, {false, false, false, true}} {
		if slices.Equal(fits, wanted) {
			// Where the label alone keeps it out, that is told; else the kind is.
			if (put("vp") == api.ErrFlow) != (k == 1) || (put("mp") == api.ErrFlow) != (k == 3) {
				t.Errorf("%s is kept out for another reason", x)
			}
			return sorts[k], api.OK
		}
	}
	return sort{}, put("vs")
}

// makings are expressions of values, each with the elements of which it may be made, and the one that it makes.
var makings = []struct{ text, from string }{
	{"~@", "n>n"}, {"-@", "n>n"}, {"@ << 3", "n>n"}, {"@ >> 31", "n>n"}, {"ror(@, 0)", "n>n"}, {"!@", "m>m"}, {"word(@)", "m>n"},
	{"@ + @", "nn>n"}, {"@ - @", "nn>n"}, {"@ * @", "nn>n"}, {"mulhi(@, @)", "nn>n"}, {"carry(@, @)", "nn>n"},
	{"@ & @", "nn>n mm>m"}, {"@ | @", "nn>n mm>m"}, {"@ ^ @", "nn>n mm>m"},
	{"@ == @", "nn>m"}, {"@ != @", "nn>m"}, {"@ < @", "nn>m"}, {"@ <= @", "nn>m"}, {"@ > @", "nn>m"}, {"@ >= @", "nn>m"},
	{"select(@, @, @)", "mnn>n mmm>m"},
}

// TestMade tries each kind of expression with values of all sorts.
func TestMade(t *testing.T) {
	for _, m := range makings {
		count := strings.Count(m.text, "@")
		for k := range 1 << (2 * count) {
			text, from, secret := m.text, "", false
			for j := range count {
				s := sorts[k>>(2*j)&3]
				text = strings.Replace(text, "@", s.sample(), 1)
				from += string(s.elem)
				secret = secret || s.secret
			}
			got, err := sortOf(t, text)
			at := strings.Index(m.from, from+">")
			if at < 0 {
				if err != api.ErrType {
					t.Errorf("%s: error %d, wanted ErrType", text, err)
				}
				continue
			}
			if want := (sort{m.from[at+count+1], secret}); err != api.OK || got != want {
				t.Errorf("%s: %v and %d, wanted %v", text, got, err, want)
			}
		}
	}
}

// TestSorts tells the sorts of what no other value makes, and of what is made of many.
func TestSorts(t *testing.T) {
	for _, x := range []struct {
		text string
		want sort
	}{
		{"0", sorts[0]}, {"4294967295", sorts[0]}, {"p", sorts[0]}, {"s", sorts[1]}, {"np", sorts[0]}, {"ns", sorts[1]}, {"pm", sorts[2]}, {"sm", sorts[3]},
		{"vp", sorts[0]}, {"vs", sorts[1]}, {"mp", sorts[2]}, {"ms", sorts[3]},
		{"ip[0]", sorts[0]}, {"is[0]", sorts[1]}, {"bp[p]", sorts[0]}, {"bs[p]", sorts[1]}, {"op[4]", sorts[0]}, {"os[vp]", sorts[1]}, {"cp[0]", sorts[0]}, {"cs[0]", sorts[1]},
		{"lp[ip[bp[0]]]", sorts[0]}, {"ls[ip[bp[0]]]", sorts[1]}, {"dp[0]", sorts[0]}, {"ds[0]", sorts[1]},
		{"open(1)", sorts[0]}, {"shut(1)", sorts[1]}, {"tell(pm)", sorts[2]}, {"hide(pm)", sorts[3]}, {"two(1, sm)", sorts[0]}, {"mix(ip, os, 2)", sorts[0]},
		{"shut(s)", sorts[1]}, {"hide(sm)", sorts[3]}, {"two(two(p, pm), hide(sm))", sorts[0]},
		{"p + p + p + s", sorts[1]}, {"s + p + p + p", sorts[1]}, {"p + (p + (p + s))", sorts[1]}, {"p + p * p - p", sorts[0]},
		{"word(p == s) + p", sorts[1]}, {"word(p < p) << 31", sorts[0]}, {"!(p == ns) & pm", sorts[3]}, {"select(p < vp, pm, mp)", sorts[2]},
		{"select(pm, ls[0], lp[0])", sorts[1]}, {"select(pm, lp[0], ls[0])", sorts[1]}, {"select(ms, 1, 2)", sorts[1]}, {"~ds[0] + 1", sorts[1]},
	} {
		if got, err := sortOf(t, x.text); err != api.OK || got != x.want {
			t.Errorf("%s: %v and %d, wanted %v", x.text, got, err, x.want)
		}
	}
}

// TestLetKeeps looks at what a let makes of a value.
func TestLetKeeps(t *testing.T) {
	rows(t, []row{
		{"let x = p; vp = x;", api.OK}, {"let x = s; vs = x;", api.OK}, {"let x = s; @vp = x;", api.ErrFlow}, {"let x = p; @mp = x;", api.ErrType},
		{"let x = pm; mp = x;", api.OK}, {"let x = sm; ms = x;", api.OK}, {"let x = sm; @mp = x;", api.ErrFlow}, {"let x = pm; @vp = x;", api.ErrType},
		{"let x = bs[0]; vs = x;", api.OK}, {"let x = bs[0]; @vp = x;", api.ErrFlow}, {"let x = bp[0]; vp = x;", api.OK},
		{"let x = p; let y = x; let z = lp[y];", api.OK}, {"let x = s; let y = x; let z = lp[@y];", api.ErrFlow},
		{"let x = hide(pm); let y = !x; @mp = y;", api.ErrFlow}, {"let x = open(p); lp[x] = 1;", api.OK},
	})
}

// TestNamesAsked looks at names in expressions: those that are not known, and those of arrays.
func TestNamesAsked(t *testing.T) {
	rows(t, []row{
		{"let x = @y;", api.ErrName}, {"let x = @ip;", api.ErrType}, {"let x = @bs;", api.ErrType}, {"let x = @op;", api.ErrType}, {"let x = @lp;", api.ErrType}, {"let x = @ds;", api.ErrType},
		{"let x = @y[0];", api.ErrName}, {"let x = @p[0];", api.ErrType}, {"let x = @vs[0];", api.ErrType}, {"let x = @sm[0];", api.ErrType}, {"let x = @np[0];", api.ErrType},
		{"let x = 1 + @open;", api.ErrName}, {"let x = @open[0];", api.ErrName}, {"let x = @main;", api.ErrName},
		{"let x = @P + 1;", api.ErrName}, {"let x = @pp;", api.ErrName}, {"let x = @_;", api.ErrName},
	})
}

// TestIndex looks at indices, in expressions and in statements.
func TestIndex(t *testing.T) {
	for _, x := range []row{
		{"0", api.OK}, {"4", api.OK}, {"4294967295", api.OK}, {"p", api.OK}, {"vp", api.OK}, {"bp[0]", api.OK}, {"word(pm)", api.OK},
		{"@s", api.ErrFlow}, {"@ns", api.ErrFlow}, {"@vs", api.ErrFlow}, {"@bs[0]", api.ErrFlow}, {"p @+ s", api.ErrFlow}, {"@shut(1)", api.ErrFlow}, {"@select(pm, p, s)", api.ErrFlow}, {"@word(sm)", api.ErrFlow},
		{"@pm", api.ErrType}, {"@sm", api.ErrType}, {"p @== s", api.ErrType}, {"@!sm", api.ErrType}, {"@hide(sm)", api.ErrType},
		{"@y", api.ErrName}, {"@ip", api.ErrType}, {"p + @y", api.ErrName}, {"ip[@s]", api.ErrFlow}, {"ip[@sm]", api.ErrType}, {"@y[0]", api.ErrName},
	} {
		for _, name := range []string{"ip", "os", "dp", "ls"} {
			told(t, in("let x = "+name+"["+x.text+"];"), x.err)
		}
		for _, name := range []string{"os", "ls", "ds", "cs"} {
			told(t, in(name+"["+x.text+"] = s;"), x.err)
		}
	}
	// What is amiss in the index comes ahead of what is amiss with the name; of the index the kind ahead of the label.
	rows(t, []row{
		{"let x = y[@pm];", api.ErrType}, {"let x = y[@sm];", api.ErrType}, {"let x = y[@s];", api.ErrFlow}, {"let x = p[@s];", api.ErrFlow}, {"let x = p[@z];", api.ErrName},
		{"let x = @p[0];", api.ErrType}, {"let x = @y[p];", api.ErrName},
		{"let x = y[ip[@s]];", api.ErrFlow}, {"let x = y[@s[0]];", api.ErrType}, {"let x = y[p + @z];", api.ErrName},
		{"let x = y[pm @+ p];", api.ErrType}, {"let x = y[s @<< 32];", api.ErrLimit},
	})
}

// TestBits looks at numbers of bits.
func TestBits(t *testing.T) {
	for _, x := range []struct {
		text string
		err  api.Errno
	}{{"0", api.OK}, {"1", api.OK}, {"31", api.OK}, {"32", api.ErrLimit}, {"33", api.ErrLimit}, {"4294967295", api.ErrLimit}} {
		for _, s := range []string{"p @<< ", "s @>> ", "ip[0] @<< ", "(p + s) @>> "} {
			text := s + x.text
			if x.err == api.OK {
				text = strings.Replace(text, mark, "", 1)
			}
			told(t, in("let x = "+text+";"), x.err)
		}
		text := "let x = @ror(p, " + x.text + ");"
		if x.err == api.OK {
			text = strings.Replace(text, mark, "", 1)
		}
		told(t, in(text), x.err)
	}
	rows(t, []row{
		{"let x = pm @<< 32;", api.ErrType}, {"let x = sm @>> 32;", api.ErrType}, {"let x = @ror(pm, 32);", api.ErrType},
		{"let x = @y << 32;", api.ErrName}, {"let x = p @<< 32 << 33;", api.ErrLimit}, {"let x = p << 31 @<< 33;", api.ErrLimit}, {"let x = @ror(pm, 31);", api.ErrType},
		{"let x = 32 + 4294967295;", api.OK}, {"let x = 33;", api.OK},
	})
}

// TestPlacesOfKinds looks at where it is told that an expression's kinds do not go together.
func TestPlacesOfKinds(t *testing.T) {
	rows(t, []row{
		{"let x = @~pm;", api.ErrType}, {"let x = @-pm;", api.ErrType}, {"let x = @!p;", api.ErrType}, {"let x = pm @+ p;", api.ErrType}, {"let x = p @- pm;", api.ErrType}, {"let x = pm @* pm;", api.ErrType},
		{"let x = p @& pm;", api.ErrType}, {"let x = pm @| p;", api.ErrType}, {"let x = p @^ sm;", api.ErrType},
		{"let x = pm @== pm;", api.ErrType}, {"let x = p @!= pm;", api.ErrType}, {"let x = pm @< p;", api.ErrType}, {"let x = pm @<= pm;", api.ErrType}, {"let x = pm @> p;", api.ErrType}, {"let x = p @>= pm;", api.ErrType},
		{"let x = @mulhi(pm, p);", api.ErrType}, {"let x = @carry(p, pm);", api.ErrType}, {"let x = @select(p, p, p);", api.ErrType}, {"let x = @select(pm, p, pm);", api.ErrType}, {"let x = @word(p);", api.ErrType},
		{"let x = @word(1);", api.ErrType}, {"let x = pm @& 1 == 0;", api.ErrType}, {"let x = 1 + (pm @+ 1);", api.ErrType}, {"let x = 1 @+ (pm & pm);", api.ErrType},
	})
}

// TestPartsFirst looks at expressions of which several parts are amiss: the first one from the left tells, and a part ahead of the whole.
func TestPartsFirst(t *testing.T) {
	errors := []row{{"@y", api.ErrName}, {"@ip", api.ErrType}, {"ip[@s]", api.ErrFlow}, {"(p @<< 32)", api.ErrLimit}, {"@open()", api.ErrArity}}
	for _, m := range makings {
		count := strings.Count(m.text, "@")
		for _, elem := range []string{"p", "sm"} {
			for k := range count {
				for a, x := range errors {
					// Those ahead of the k-th are right, those behind are amiss as well.
					text := m.text
					for j := range count {
						part := elem
						switch {
						case j == k:
							part = strings.Replace(x.text, mark, "#", 1)
						case j > k:
							part = strings.Replace(errors[(a+j)%len(errors)].text, mark, "", 1)
						}
						text = strings.Replace(text, "@", part, 1)
					}
					told(t, in("let x = "+strings.Replace(text, "#", mark, 1)+";"), x.err)
				}
			}
		}
	}
}

// TestCalls looks at calls, in expressions and as statements.
func TestCalls(t *testing.T) {
	for _, x := range []row{
		{"open(1)", api.OK}, {"open(p)", api.OK}, {"shut(s)", api.OK}, {"shut(p)", api.OK}, {"tell(pm)", api.OK}, {"hide(sm)", api.OK}, {"hide(mp)", api.OK}, {"two(p, pm)", api.OK}, {"two(p, sm)", api.OK}, {"mix(ip, os, p)", api.OK},
		{"open(open(open(1)))", api.OK}, {"shut(open(1) + shut(2))", api.OK},
		{"@nope()", api.ErrName}, {"@main()", api.ErrName}, {"@p()", api.ErrName}, {"@ip(0)", api.ErrName}, {"@nope(y)", api.ErrName}, {"@nope(ip[s])", api.ErrName}, {"@Open(1)", api.ErrName},
		{"@open()", api.ErrArity}, {"@open(1, 2)", api.ErrArity}, {"@two(p)", api.ErrArity}, {"@two(p, sm, p)", api.ErrArity}, {"@none(1)", api.ErrArity}, {"@mix(ip, os)", api.ErrArity}, {"@mix()", api.ErrArity},
		{"@open(y, y)", api.ErrArity}, {"@two(ip[s])", api.ErrArity}, {"@read()", api.ErrArity}, {"@read(ip, ip)", api.ErrArity},
		{"open(@pm)", api.ErrType}, {"open(@sm)", api.ErrType}, {"shut(@pm)", api.ErrType}, {"tell(@p)", api.ErrType}, {"tell(@s)", api.ErrType}, {"hide(@1)", api.ErrType}, {"two(@pm, p)", api.ErrType}, {"two(p, @p)", api.ErrType}, {"two(p, @s)", api.ErrType},
		{"open(@s)", api.ErrFlow}, {"open(@vs)", api.ErrFlow}, {"open(p @+ s)", api.ErrFlow}, {"open(@shut(1))", api.ErrFlow}, {"tell(@sm)", api.ErrFlow}, {"two(@s, sm)", api.ErrFlow}, {"two(@s, p)", api.ErrFlow}, {"mix(ip, os, @s)", api.ErrFlow},
		{"open(@y)", api.ErrName}, {"open(@ip)", api.ErrType}, {"open(ip[@s])", api.ErrFlow}, {"open(ip[@pm])", api.ErrType}, {"two(p, @y)", api.ErrName}, {"two(@y, z)", api.ErrName}, {"two(@s, y)", api.ErrFlow}, {"two(@pm, y)", api.ErrType},
		{"two(p, s @<< 32)", api.ErrLimit}, {"open(@nope())", api.ErrName}, {"open(@open())", api.ErrArity}, {"open(@none())", api.ErrType}, {"open(@read(ip))", api.ErrType}, {"open(open(@s))", api.ErrFlow},
		{"two(open(@s), nope())", api.ErrFlow}, {"two(@none(), nope())", api.ErrType}, {"two(@nope(), none())", api.ErrName},
	} {
		told(t, in("let x = "+x.text+";"), x.err)
		told(t, in(x.text+";"), x.err)
		told(t, in("if 1 == 1 { for i < 3 max 3 { "+x.text+"; } }"), x.err)
	}
}

// TestResults looks at calls of functions that have no result: they may be statements alone.
func TestResults(t *testing.T) {
	rows(t, []row{
		{"none();", api.OK}, {"read(is);", api.OK}, {"open(1);", api.OK}, {"hide(pm);", api.OK},
		{"let x = @none();", api.ErrType}, {"let x = @read(is);", api.ErrType}, {"vp = 1 + @none();", api.ErrType}, {"lp[@none()] = 1;", api.ErrType}, {"lp[0] = @none();", api.ErrType},
		{"if @none() { }", api.ErrType}, {"for i < @none() max 1 { }", api.ErrType}, {"let x = ip[@none()];", api.ErrType}, {"open(@none());", api.ErrType}, {"let x = @none() + y;", api.ErrType},
		// What is amiss in what is handed over comes first.
		{"let x = read(@bs);", api.ErrType}, {"let x = read(@y);", api.ErrName}, {"let x = look(@is);", api.ErrFlow}, {"let x = @none(1);", api.ErrArity}, {"let x = @read();", api.ErrArity},
	})
}

// TestArraysHanded looks at arrays that are handed over.
func TestArraysHanded(t *testing.T) {
	var l []row
	names := map[string]string{"words": "ip is op os lp ls", "bytes": "bp bs cp cs dp ds", "scalars": "p s np ns vp vs pm sm mp ms"}
	of := func(group string, keep func(string) bool) []string {
		var out []string
		for _, x := range strings.Fields(names[group]) {
			if keep(x) {
				out = append(out, x)
			}
		}
		return out
	}
	secret := func(x string) bool { return x[1] == 's' }
	fixed := func(x string) bool { return x[0] == 'i' || x[0] == 'b' }
	any := func(string) bool { return true }
	for _, f := range []struct {
		name, group, other string
		secret, out        bool
	}{
		{"read", "words", "bytes", true, false}, {"look", "words", "bytes", false, false}, {"eat", "bytes", "words", true, false}, {"taste", "bytes", "words", false, false},
		{"fill", "words", "bytes", true, true}, {"show", "words", "bytes", false, true}, {"pour", "bytes", "words", true, true},
	} {
		for _, x := range of(f.group, any) {
			switch {
			case f.out && fixed(x):
				l = append(l, row{f.name + "(@" + x + ");", api.ErrType})
			case !f.secret && secret(x), f.out && secret(x) != f.secret:
				l = append(l, row{f.name + "(@" + x + ");", api.ErrFlow})
			default:
				l = append(l, row{f.name + "(" + x + ");", api.OK})
			}
		}
		for _, x := range append(of(f.other, any), of("scalars", any)...) {
			l = append(l, row{f.name + "(@" + x + ");", api.ErrType})
		}
		for _, x := range []row{
			{"@1", api.ErrType}, {"@ip[0]", api.ErrType}, {"@ls[s]", api.ErrType}, {"y @+ 1", api.ErrType}, {"@~ls", api.ErrType}, {"@nope()", api.ErrType}, {"@open()", api.ErrType}, {"@select(y, ls, ls)", api.ErrType},
			{"@y", api.ErrName}, {"@read", api.ErrName},
		} {
			l = append(l, row{f.name + "(" + x.text + ");", x.err})
		}
	}
	rows(t, l)
	rows(t, []row{
		{"let x = mix(ip, ls, 1);", api.OK}, {"let x = mix(lp, os, p);", api.OK}, {"let x = mix(op, os, p);", api.OK}, {"let x = mix(ip, (ls), 1);", api.OK},
		{"let x = mix(@is, is, pm);", api.ErrFlow}, {"let x = mix(ip, @is, pm);", api.ErrType}, {"let x = mix(ip, @lp, pm);", api.ErrFlow}, {"let x = mix(ip, ls, @pm);", api.ErrType}, {"let x = mix(@bp, y, s);", api.ErrType}, {"let x = mix(@y, bp, s);", api.ErrName},
		{"let x = mix(ip, @y, z);", api.ErrName}, {"let x = mix(1 @+ 1, y, z);", api.ErrType},
	})
}

// TestLengths looks at arrays of other lengths than a parameter's.
func TestLengths(t *testing.T) {
	wholes(t, []row{
		{"fn f(sec a: u32[4]) { } fn main(sec b: u32[4]) { f(b); }", api.OK},
		{"fn f(sec a: u32[4]) { } fn main(sec b: u32[5]) { f(@b); }", api.ErrType},
		{"fn f(sec a: u32[4]) { } fn main(sec b: u32[3]) { f(@b); }", api.ErrType},
		{"fn f(sec a: u8[4]) { } fn main() { var sec b: u8[5]; f(@b); }", api.ErrType},
		{"fn f(sec a: u8[1]) { } fn main() { var sec b: u8[1]; f(b); }", api.OK},
		{"fn f(sec a: u32[1]) { } fn main() { var sec b: u32; f(@b); }", api.ErrType},
		{"fn f(out sec a: u32[2]) { } fn main(out sec b: u32[3]) { f(@b); }", api.ErrType},
		// The kind is told ahead of the label.
		{"fn f(pub a: u32[4]) { } fn main(sec b: u32[5]) { f(@b); }", api.ErrType},
		{"fn f(pub a: u32[4]) { } fn main(sec b: u8[4]) { f(@b); }", api.ErrType},
		{"fn f(out pub a: u32[4]) { } fn main(sec b: u32[4]) { f(@b); }", api.ErrType},
		{"fn f(out sec a: u32[4]) { } fn main(pub b: u32[4]) { f(@b); }", api.ErrType},
		{"fn f(out sec a: u32[4]) { } fn main(out pub b: u32[4]) { f(@b); }", api.ErrFlow},
		{"fn f(out pub a: u32[4]) { } fn main(out sec b: u32[4]) { f(@b); }", api.ErrFlow},
		// What a function was handed it hands on as what it is there.
		{"fn f(out sec a: u32[4]) { a[0] = 1; } fn g(out sec a: u32[4]) { f(a); } fn main(out sec b: u32[4]) { g(b); }", api.OK},
		{"fn f(out sec a: u32[4]) { } fn g(sec a: u32[4]) { f(@a); } fn main(out sec b: u32[4]) { g(b); }", api.ErrType},
	})
}

// TestStatements looks at each kind of statement and what may be amiss in it, in the order in which it is told.
func TestStatements(t *testing.T) {
	rows(t, []row{
		// let: the value, then the name.
		{"let x = p;", api.OK}, {"@let p = 1;", api.ErrTwice}, {"let x = 1; @let x = 2;", api.ErrTwice}, {"let p = @y;", api.ErrName}, {"let p = p @+ pm;", api.ErrType}, {"let x = @x;", api.ErrName}, {"let x = @ip;", api.ErrType},
		// var: the name, then how many.
		{"var pub x: u32;", api.OK}, {"var sec x: mask;", api.OK}, {"var sec x: u8[16384];", api.OK}, {"var sec x: u32[16384];", api.OK}, {"@var sec x: u8[16385];", api.ErrLimit}, {"@var pub x: u32[16385];", api.ErrLimit}, {"@var pub x: u32[4294967295];", api.ErrLimit},
		{"@var pub p: u32;", api.ErrTwice}, {"@var pub p: u32[16385];", api.ErrTwice}, {"@var pub lp: u32[4];", api.ErrTwice},
		// Setting: the value, the name, the kind, the label.
		{"vp = 1;", api.OK}, {"vs = 1;", api.OK}, {"vs = s;", api.OK}, {"mp = pm;", api.OK}, {"ms = sm;", api.OK}, {"ms = pm;", api.OK}, {"vp = vp + 1;", api.OK},
		{"@y = 1;", api.ErrName}, {"@y = s;", api.ErrName}, {"y = @z;", api.ErrName}, {"y = pm @+ 1;", api.ErrType}, {"vp = @z;", api.ErrName}, {"p = @z;", api.ErrName}, {"lp = @z;", api.ErrName},
		{"@lp = 1;", api.ErrType}, {"@ls = s;", api.ErrType}, {"@op = 1;", api.ErrType}, {"@ip = 1;", api.ErrType}, {"@vp = pm;", api.ErrType}, {"@mp = p;", api.ErrType}, {"@vp = sm;", api.ErrType}, {"@mp = s;", api.ErrType}, {"@lp = s;", api.ErrType},
		{"@vp = s;", api.ErrFlow}, {"@mp = sm;", api.ErrFlow}, {"@vp = p + s;", api.ErrFlow}, {"@vp = ls[0];", api.ErrFlow}, {"@vp = shut(1);", api.ErrFlow}, {"@vp = select(sm, 1, 2);", api.ErrFlow},
		// Storing: the index, the value, the name, the kind, the label.
		{"lp[0] = 1;", api.OK}, {"ls[p] = s;", api.OK}, {"ls[0] = 1;", api.OK}, {"dp[0] = 256;", api.OK}, {"ds[0] = s;", api.OK}, {"op[9] = 1;", api.OK}, {"os[0] = s;", api.OK}, {"cp[0] = p;", api.OK}, {"cs[0] = s;", api.OK},
		{"@y[0] = 1;", api.ErrName}, {"@y[0] = pm;", api.ErrName}, {"y[0] = @z;", api.ErrName}, {"y[@s] = z;", api.ErrFlow}, {"y[@pm] = z;", api.ErrType}, {"y[@sm] = 1;", api.ErrType}, {"y[@x] = z;", api.ErrName}, {"y[ip[@s]] = 1;", api.ErrFlow}, {"lp[0] = @z;", api.ErrName}, {"lp[@s] = 1;", api.ErrFlow},
		{"@vp[0] = 1;", api.ErrType}, {"@vp[0] = s;", api.ErrType}, {"@p[0] = 1;", api.ErrType}, {"@ip[0] = 1;", api.ErrType}, {"@is[0] = s;", api.ErrType}, {"@bp[0] = s;", api.ErrType}, {"@bs[0] = s;", api.ErrType}, {"@lp[0] = pm;", api.ErrType}, {"@lp[0] = sm;", api.ErrType}, {"@ds[0] = sm;", api.ErrType},
		{"@lp[0] = s;", api.ErrFlow}, {"@op[0] = s;", api.ErrFlow}, {"@dp[0] = s;", api.ErrFlow}, {"@cp[p] = ls[0];", api.ErrFlow}, {"vp[0] = p @<< 32;", api.ErrLimit},
		// Conditions.
		{"if pm { } else { }", api.OK}, {"if p == 1 { vp = 1; } else { vs = 1; }", api.OK}, {"if tell(pm) { }", api.OK},
		{"if @p { }", api.ErrType}, {"if @s { }", api.ErrType}, {"if @1 { }", api.ErrType}, {"if p @+ s { }", api.ErrType}, {"if @sm { }", api.ErrFlow}, {"if p @== s { }", api.ErrFlow}, {"if @!sm { }", api.ErrFlow}, {"if @hide(pm) { }", api.ErrFlow}, {"if pm @& sm { }", api.ErrFlow},
		{"if @y { }", api.ErrName}, {"if @lp { }", api.ErrType}, {"if @sm { let x = y; }", api.ErrFlow}, {"if @p { let x = y; }", api.ErrType}, {"if pm { let x = @y; } else { let x = z; }", api.ErrName}, {"if pm { let x = 1; } else { let x = @z; }", api.ErrName}, {"if pm { } else { @vp = s; }", api.ErrFlow},
		// Loops: the bound, the name, how often, the block.
		{"if pm { @for i < p max 65537 { } }", api.ErrLimit}, {"for i < 3 max 0 { }", api.OK}, {"for i < vp max 1 { vp = i; }", api.OK}, {"@for i < 3 max 65537 { }", api.ErrLimit}, {"@for i < 3 max 4294967295 { }", api.ErrLimit},
		{"for i < @pm max 1 { }", api.ErrType}, {"for i < @sm max 1 { }", api.ErrType}, {"for i < @s max 1 { }", api.ErrFlow}, {"for i < p @+ s max 1 { }", api.ErrFlow}, {"for i < @y max 1 { }", api.ErrName}, {"for i < @i max 1 { }", api.ErrName}, {"for i < ip[@s] max 1 { }", api.ErrFlow},
		{"for p < @pm max 65537 { let x = y; }", api.ErrType}, {"for p < @s max 65537 { let x = y; }", api.ErrFlow}, {"for p < @y max 65537 { }", api.ErrName}, {"@for p < 1 max 65537 { let x = y; }", api.ErrTwice}, {"@for lp < 1 max 1 { }", api.ErrTwice}, {"@for i < 1 max 65537 { let x = y; }", api.ErrLimit}, {"for i < 1 max 2 { let x = @y; }", api.ErrName},
		{"for i < 4 max 4 { lp[i] = i; @vp = s; }", api.ErrFlow}, {"for i < 4 max 4 { for k < i max 4 { lp[k] = ip[i]; } }", api.OK}, {"for i < 4 max 4 { let x = i; vp = x + open(i); }", api.OK}, {"for i < 4 max 4 { @mp = i; }", api.ErrType}, {"for i < 4 max 4 { if @i { } }", api.ErrType},
	})
}

// TestFixed looks at what may not be set or stored, and at what may.
func TestFixed(t *testing.T) {
	rows(t, []row{
		{"@p = 1;", api.ErrType}, {"@s = s;", api.ErrType}, {"@np = 1;", api.ErrType}, {"@ns = s;", api.ErrType}, {"@pm = pm;", api.ErrType}, {"for i < 3 max 3 { @i = 1; }", api.ErrType}, {"let x = 1; @x = 2;", api.ErrType},
		// It is told ahead of the label, and of nothing but that.
		{"let x = 1; @x = s;", api.ErrType}, {"@p = s;", api.ErrType}, {"for i < 3 max 3 { @i = s; }", api.ErrType}, {"@bp[0] = s;", api.ErrType},
		{"vp = 1; vp = 2; vs = vp; ms = pm; mp = pm;", api.OK}, {"op[0] = 1; os[0] = op[0]; cp[0] = 1; cs[0] = 1; lp[0] = 1; ds[0] = 1;", api.OK},
	})
	wholes(t, []row{
		{"fn f(pub m: mask) { @m = m; } fn main() { }", api.ErrType},
		{"fn f(sec a: u32) { @a = 1; } fn main() { }", api.ErrType},
		{"fn f(sec a: u8[1], out sec b: u8[1]) { b[0] = a[0]; } fn main() { }", api.OK},
		{"fn f(sec a: u8[1], out sec b: u8[1]) { @a[0] = b[0]; } fn main() { }", api.ErrType},
	})
}

// TestKnown looks at where names are known, and where they may be made again.
func TestKnown(t *testing.T) {
	rows(t, []row{
		// To the end of their block.
		{"if pm { let x = 1; vp = x; } @x = 1;", api.ErrName}, {"if pm { let x = 1; } vp = @x;", api.ErrName}, {"if pm { let x = 1; } else { vp = @x; }", api.ErrName}, {"if pm { } else { let x = 1; } vp = @x;", api.ErrName},
		{"for i < 1 max 1 { let x = 1; } vp = @x;", api.ErrName}, {"for i < 1 max 1 { } vp = @i;", api.ErrName}, {"for i < 1 max 1 { vp = i; }", api.OK},
		{"if pm { let x = 1; if pm { let y = x; } let z = @y; }", api.ErrName}, {"if pm { let x = 1; if pm { let y = x; } vp = x; }", api.OK}, {"if pm { var pub x: u32[2]; x[0] = 1; } @x[0] = 1;", api.ErrName},
		{"for i < 1 max 1 { for k < i max 1 { vp = k; } vp = @k; }", api.ErrName}, {"for i < 1 max 1 { for k < i max 1 { } vp = i; }", api.OK},
		// Behind their statement.
		{"vp = @x; let x = 1;", api.ErrName}, {"@x = 1; var pub x: u32;", api.ErrName}, {"let x = @x;", api.ErrName}, {"for i < @i max 1 { }", api.ErrName}, {"if @c { let c = pm; }", api.ErrName},
		// Not again, but behind the block.
		{"let x = 1; if pm { @let x = 2; }", api.ErrTwice}, {"let x = 1; if pm { } else { @var pub x: u32; }", api.ErrTwice}, {"let x = 1; @for x < 1 max 1 { }", api.ErrTwice}, {"for x < 1 max 1 { @let x = 1; }", api.ErrTwice}, {"for x < 1 max 1 { @for x < 1 max 1 { } }", api.ErrTwice}, {"for x < 1 max 1 { if pm { @var pub x: u32; } }", api.ErrTwice},
		{"if pm { let x = 1; } else { let x = pm; } let x = s;", api.OK}, {"for x < 1 max 1 { } for x < 1 max 1 { } let x = 1;", api.OK}, {"if pm { let x = 1; } if pm { let x = 1; @let x = 1; }", api.ErrTwice},
		{"if pm { let x = 1; let y = 2; } let y = 1; let x = 2; vp = x + y;", api.OK}, {"for i < 1 max 1 { let x = 1; if pm { let y = 1; } let y = 2; } let y = 3;", api.OK},
		{"if pm { @let p = 1; }", api.ErrTwice}, {"@var pub s: u32;", api.ErrTwice}, {"@let ip = 1;", api.ErrTwice}, {"@let op = 1;", api.ErrTwice}, {"@var sec vp: u32;", api.ErrTwice}, {"@let lp = 1;", api.ErrTwice},
		// Made anew behind its block a name is what it is made as there.
		{"if pm { let x = s; } let x = 1; vp = x;", api.OK}, {"if pm { let x = 1; } var pub x: u32; x = 2;", api.OK}, {"if pm { var pub x: u32; } let x = 2; @x = 2;", api.ErrType}, {"if pm { var pub x: u32[2]; } let x = 2; vp = x;", api.OK}, {"for x < 1 max 1 { } let x = s; @vp = x;", api.ErrFlow},
		// What lies in a block knows what is made ahead of it.
		{"let x = 1; if pm { if pm { for i < x max 2 { vp = x + i; } } }", api.OK}, {"var pub x: u32; if pm { x = 1; } vp = x;", api.OK},
	})
}

// TestFunctionsKnown looks at functions: their names, and what they know of each other.
func TestFunctionsKnown(t *testing.T) {
	wholes(t, []row{
		{"fn f() { } fn g() { f(); } fn main() { g(); f(); }", api.OK},
		{"fn f() { @f(); } fn main() { }", api.ErrName}, {"fn f() { @g(); } fn g() { } fn main() { }", api.ErrName}, {"fn main() { @main(); }", api.ErrName}, {"fn f() { if 1 == 1 { for i < 1 max 1 { @f(); } } } fn main() { }", api.ErrName},
		{"fn f(): pub u32 { return @f(); } fn main() { }", api.ErrName},
		{"fn f() { } fn @f() { } fn main() { }", api.ErrTwice}, {"fn f() { } fn g() { } fn @f(pub a: u32, pub a: u32) { let x = y; } fn main() { }", api.ErrTwice}, {"fn main() { } fn @main() { }", api.ErrTwice}, {"fn f() { } fn f2() { } fn main() { }", api.OK},
		// Names of values and of functions are apart.
		{"fn f(pub f: u32): pub u32 { return f; } fn main(pub main: u32) { let f = f(main); }", api.OK}, {"fn f() { } fn main() { let x = 1 + @f; }", api.ErrName}, {"fn f() { } fn main(pub x: u32) { @x(); }", api.ErrName},
		// What a function makes the next one does not know.
		{"fn f(pub a: u32) { let b = a; } fn g(pub a: u32) { let b = a; } fn main() { }", api.OK}, {"fn f(pub a: u32) { } fn g() { let x = @a; } fn main() { }", api.ErrName}, {"fn f() { let b = 1; } fn g() { let x = @b; } fn main() { }", api.ErrName},
		{"fn f(pub a: u32): pub u32 { let b = a; return b; } fn g(pub b: u32): pub u32 { let a = b; return a; } fn main() { }", api.OK}, {"fn f(pub a: u32): pub u32 { let b = a; return b; } fn g(): pub u32 { return @b; } fn main() { }", api.ErrName},
		{"fn f(sec a: u32[2]) { } fn g(pub a: u32) { let b = a; } fn main() { }", api.OK},
		{"fn f(sec a: u32) { let x = a; } fn g(pub a: u32) { var pub x: u32; x = a; } fn main() { }", api.OK},
	})
}

// TestParams looks at what is amiss in parameters.
func TestParams(t *testing.T) {
	wholes(t, []row{
		{"fn f(pub a: u32, sec @a: u32) { } fn main() { }", api.ErrTwice}, {"fn f(pub a: u32, pub b: u32, pub c: u32, out sec @b: u32[99999]) { let x = y; } fn main() { }", api.ErrTwice}, {"fn f(pub a: u32, out pub @a: u32) { } fn main() { }", api.ErrTwice}, {"fn f(pub a: u8[2], pub @a: u8[2], pub a: u8[2]) { } fn main() { }", api.ErrTwice},
		{"fn f(out pub @a: u32) { } fn main() { }", api.ErrType}, {"fn f(out sec @a: mask) { } fn main() { }", api.ErrType}, {"fn f(out pub a: u32[1]) { } fn main() { }", api.OK}, {"fn f(out pub a: u8[1]) { } fn main() { }", api.OK},
		{"fn f(pub a: u32[16384], sec b: u8[16384], out sec c: u32[16384]) { } fn main() { }", api.OK}, {"fn f(pub @a: u32[16385]) { } fn main() { }", api.ErrLimit}, {"fn f(pub @a: u8[16385]) { } fn main() { }", api.ErrLimit}, {"fn f(out pub @a: u8[4294967295]) { } fn main() { }", api.ErrLimit},
		// Those ahead come first, and all parameters ahead of the statements.
		{"fn f(out pub @a: u32, pub b: u32[16385]) { } fn main() { }", api.ErrType}, {"fn f(pub @b: u32[16385], out pub a: u32) { } fn main() { }", api.ErrLimit}, {"fn f(pub b: u32, out pub @a: u32, pub b: u32) { let x = y; } fn main() { }", api.ErrType}, {"fn f(pub b: u32, pub @b: u32, out pub a: u32): pub u32 { } fn main() { }", api.ErrTwice}, {"fn f(pub @b: u32[16385]): pub u32 { let x = y; } fn main() { }", api.ErrLimit},
		// Functions of many arrays may be, but main.
		{"fn f(pub a: u32[16384], pub b: u32[16384]) { } fn main() { }", api.OK}, {"fn f(pub a: mask, sec b: mask): sec mask { return a & b; } fn main() { }", api.OK},
	})
}

// TestReturns looks at where a result is told, and what it is.
func TestReturns(t *testing.T) {
	wholes(t, []row{
		{"fn f(): pub u32 { return 1; } fn main() { }", api.OK}, {"fn f(sec a: u32): sec u32 { let b = a; return b; } fn main() { }", api.OK}, {"fn f(pub a: u32): sec u32 { return a; } fn main() { }", api.OK}, {"fn f(pub a: u32): pub mask { return a == 1; } fn main() { }", api.OK}, {"fn f(sec a: mask): sec mask { return a; } fn main() { }", api.OK},
		// Not at the end, or not in a function that has one.
		{"fn f(): pub u32 { @return 1; return 2; } fn main() { }", api.ErrType}, {"fn f(): pub u32 { if 1 == 1 { @return 1; } return 2; } fn main() { }", api.ErrType}, {"fn f(): pub u32 { if 1 == 1 { } else { @return 1; } return 2; } fn main() { }", api.ErrType}, {"fn f(): pub u32 { for i < 1 max 1 { @return 1; } return 2; } fn main() { }", api.ErrType}, {"fn f(): pub u32 { for i < 1 max 1 { @return 1; } } fn main() { }", api.ErrType},
		{"fn f() { @return 1; } fn main() { }", api.ErrType}, {"fn f() { @return 1; let x = y; } fn main() { }", api.ErrType}, {"fn main() { @return 1; }", api.ErrType}, {"fn f() { if 1 == 1 { @return 1; } } fn main() { }", api.ErrType},
		{"fn f(sec s: u32): pub u32 { @return s; return 1; } fn main() { }", api.ErrType}, {"fn f() { return @y; } fn main() { }", api.ErrName}, {"fn f(): pub u32 { return @y; return 1; } fn main() { }", api.ErrName}, {"fn f(): pub u32 { if 1 == 1 { return @y; } return 1; } fn main() { }", api.ErrName},
		// None at the end.
		{"fn @f(): pub u32 { } fn main() { }", api.ErrType}, {"fn @f(): sec mask { let x = 1; } fn main() { }", api.ErrType}, {"fn @f(): pub u32 { if 1 == 1 { } } fn main() { }", api.ErrType}, {"fn f(): pub u32 { let x = @y; } fn main() { }", api.ErrName}, {"fn f(): pub u32 { @return 1; let x = 1; } fn main() { }", api.ErrType}, {"fn @f(pub a: u32): pub u32 { var pub b: u32; b = a; } fn g() { } fn main() { }", api.ErrType},
		// Of another kind, or secret.
		{"fn f(pub a: mask): pub u32 { @return a; } fn main() { }", api.ErrType}, {"fn f(sec a: mask): pub u32 { @return a; } fn main() { }", api.ErrType}, {"fn f(): pub mask { @return 1; } fn main() { }", api.ErrType}, {"fn f(sec a: u32): pub mask { @return a; } fn main() { }", api.ErrType},
		{"fn f(sec a: u32): pub u32 { @return a; } fn main() { }", api.ErrFlow}, {"fn f(sec a: mask): pub mask { @return a; } fn main() { }", api.ErrFlow}, {"fn f(sec a: u8[4]): pub u32 { @return a[0]; } fn main() { }", api.ErrFlow}, {"fn f(sec a: u8[4]): sec u32 { return a[0]; } fn main() { }", api.OK},
		{"fn f(): pub u32 { return @y; } fn main() { }", api.ErrName}, {"fn f(sec a: u32[2]): pub u32 { return @a; } fn main() { }", api.ErrType}, {"fn g() { } fn f(): pub u32 { return @g(); } fn main() { }", api.ErrType}, {"fn f(sec a: u32): pub u32 { return a @<< 32; } fn main() { }", api.ErrLimit},
	})
}

// TestMain looks at what a program begins with.
func TestMain(t *testing.T) {
	for _, s := range []string{"", " // nothing", "fn f() { }", "fn main() { } fn f() { }", "fn Main() { }", "fn mai() { }", "fn main_() { }", "fn f(): pub u32 { return 1; }", "fn f(pub m: mask, pub l: u32[16384], pub k: u32[16384]) { }", "fn main() { } fn f() { for i < 1 max 65536 { } }"} {
		told0(t, s, api.ErrMain)
	}
	wholes(t, []row{
		{"fn main() { }", api.OK}, {"fn f() { } fn g() { } fn main() { }", api.OK}, {"fn main(pub a: u32, sec b: u32, pub c: u8[1], out pub d: u8[1]) { }", api.OK},
		{"fn @main(): pub u32 { return 1; }", api.ErrMain}, {"fn @main(pub m: mask): pub mask { return m; }", api.ErrMain}, {"fn @main(pub a: u32[16384], pub b: u32[16384]): pub u32 { return 1; }", api.ErrMain},
		{"fn main(pub @m: mask) { }", api.ErrMain}, {"fn main(pub a: u32, sec @m: mask, pub k: mask) { }", api.ErrMain}, {"fn main(pub a: u32[16384], sec @m: mask) { }", api.ErrMain}, {"fn main(pub @m: mask, pub a: u32[16384], pub b: u32[16384]) { for i < 1 max 65536 { } }", api.ErrMain},
		// What is amiss within comes first.
		{"fn f() { let x = @y; }", api.ErrName}, {"fn main(): pub u32 { return @y; }", api.ErrName}, {"fn @main(): pub u32 { }", api.ErrType}, {"fn main(pub m: mask) { let x = @y; }", api.ErrName}, {"fn main(out pub @m: mask) { }", api.ErrType}, {"fn main(pub m: mask, pub @m: u32) { }", api.ErrTwice},
		{"fn @main(pub a: u32[16384], pub b: u32[16384]) { }", api.ErrLimit}, {"fn main(pub a: u32[16384], pub b: u32[16384]) { let x = @y; }", api.ErrName},
	})
}

// TestBytes looks at how many bytes go in and out.
func TestBytes(t *testing.T) {
	for _, x := range []struct {
		params string
		fits   bool
	}{
		{"$ a: u32[16384]", true}, {"$ a: u32[16383], $ b: u8[4]", true}, {"$ a: u32[16383], $ b: u8[1]", true}, {"$ a: u32[16383], $ b: u32[1]", true}, {"$ a: u32[16383], $ b: u8[5]", false}, {"$ a: u32[16384], $ b: u8[1]", false}, {"$ a: u32[16384], $ b: u32[1]", false}, {"$ a: u32[16383], $ b: u32[2]", false},
		{"$ a: u8[16384], $ b: u8[16384], $ c: u8[16384], $ d: u8[16384]", true}, {"$ a: u8[16384], $ b: u8[16384], $ c: u8[16384], $ d: u8[16381]", true}, {"$ a: u8[16384], $ b: u8[16384], $ c: u8[16384], $ d: u8[16380], $ e: u8[4]", true}, {"$ a: u8[16384], $ b: u8[16384], $ c: u8[16384], $ d: u8[16380], $ e: u8[5]", false},
		{"$ a: u8[16384], $ b: u8[16384], $ c: u8[16384], $ d: u8[16384], $ e: u8[1]", false}, {"$ a: u8[16384], $ b: u8[16384], $ c: u8[16384], $ d: u8[16381], $ e: u8[1]", false}, {"$ a: u8[16384], $ b: u8[16384], $ c: u8[16384], $ d: u8[16377], $ e: u8[1]", true}, {"$ a: u32[8192], $ b: u8[16384], $ c: u8[16384]", true},
		{"$ a: u32[8192], $ b: u32[8192]", true}, {"$ a: u32[8192], $ b: u32[8193]", false}, {"$ a: u32[16383], $ b: u8[3], $ c: u8[1]", false}, {"$ a: u32[16382], $ b: u8[3], $ c: u8[1]", true}, {"$ a: u32[16382], $ b: u8[3], $ c: u8[2], $ d: u8[1]", false},
		{"pub n: u32, $ a: u32[16383]", true}, {"sec n: u32, out sec x: u32[16384], $ a: u8[16384]", true},
	} {
		for _, dir := range []string{"pub", "sec", "out pub", "out sec"} {
			params := strings.ReplaceAll(x.params, "$", dir)
			if strings.HasPrefix(dir, "out") && strings.Contains(params, "x:") {
				continue
			}
			if x.fits {
				told(t, "fn main("+params+") { }", api.OK)
			} else {
				told(t, "fn @main("+params+") { }", api.ErrLimit)
				told(t, "fn f("+params+") { } fn main() { }", api.OK)
			}
		}
	}
	wholes(t, []row{
		{"fn main(pub a: u32[16383], pub n: u32) { }", api.OK}, {"fn @main(pub a: u32[16383], pub n: u32, sec k: u32) { }", api.ErrLimit}, {"fn @main(pub a: u32[16384], pub n: u32) { }", api.ErrLimit}, {"fn @main(sec n: u32, out pub b: u8[1], pub a: u32[16384]) { }", api.ErrLimit},
		// In and out are apart.
		{"fn main(pub a: u32[16384], out pub b: u32[16384]) { }", api.OK}, {"fn main(out sec b: u32[16384], pub a: u32[8192], sec c: u32[8192]) { }", api.OK}, {"fn @main(pub a: u32[16384], out pub b: u32[16384], out sec c: u8[1]) { }", api.ErrLimit}, {"fn @main(out pub b: u8[1], pub a: u32[16384], out pub c: u32[16384]) { }", api.ErrLimit},
		// Those of public and of secret ones count alike.
		{"fn @main(pub a: u32[8192], sec c: u32[8193]) { }", api.ErrLimit}, {"fn @main(out pub a: u32[8192], out sec c: u32[8193]) { }", api.ErrLimit},
	})
	if p := listed(16384); Check(p) != (api.Bad{}) || Cost(p) != 1 {
		t.Errorf("16384 scalars: %v, %d", Check(p), Cost(p))
	}
	if p := listed(16385); Check(p) != (api.Bad{Err: api.ErrLimit, Pos: 7}) || Cost(p) != 0 {
		t.Errorf("16385 scalars: %v, %d", Check(p), Cost(p))
	}
}

// listed tells a program of a main of so many scalars.
func listed(scalars int) api.Program {
	f := api.Func{Name: "main", Pos: 7}
	for k := range scalars {
		f.Params = append(f.Params, api.Param{Pos: 8, Name: fmt.Sprintf("a%d", k)})
	}
	return api.Program{Funcs: []api.Func{f}}
}

// TestFirst looks at programs in which several things are amiss.
func TestFirst(t *testing.T) {
	rows(t, []row{
		{"let x = @y; vp = z;", api.ErrName}, {"vp = @y; mp = z;", api.ErrName}, {"@mp = p; vp = y;", api.ErrType}, {"@vp = s; mp = p;", api.ErrFlow}, {"@let p = 1; vp = y;", api.ErrTwice}, {"if pm { @vp = s; } mp = p;", api.ErrFlow}, {"for i < 3 max 3 { @mp = i; } vp = s;", api.ErrType}, {"for i < 3 max 3 { vp = i; } @vp = s; if pm { vp = y; }", api.ErrFlow},
		{"vp = @y + z;", api.ErrName}, {"vp = p + @z;", api.ErrName}, {"vp = (p @+ pm) + z;", api.ErrType}, {"vp = @open() + z;", api.ErrArity}, {"lp[@y] = z;", api.ErrName}, {"lp[p] = @z;", api.ErrName},
	})
	wholes(t, []row{
		{"fn f() { @x = 1; } fn f() { } fn main() { }", api.ErrName}, {"fn f() { } fn @f() { } fn main() { x = 1; }", api.ErrTwice}, {"fn f(out pub @a: u32) { } fn g(): pub u32 { } fn main() { }", api.ErrType}, {"fn @g(): pub u32 { } fn f(out pub a: u32) { } fn main() { }", api.ErrType}, {"fn f() { let x = 1 @<< 32; } fn g() { let x = y; }", api.ErrLimit},
		{"fn f() { } fn main() { @f(1); f(); g(); }", api.ErrArity}, {"fn main(pub a: u32, pub @a: u32) { x = 1; }", api.ErrTwice},
	})
}

// TestPlacesByHand looks at programs whose places are other ones than those of a text.
func TestPlacesByHand(t *testing.T) {
	call := api.Expr{Kind: api.ECall, Pos: -5, Name: "g"}
	p := api.Program{Funcs: []api.Func{{Name: "main", Pos: 9, Body: []api.Stmt{{Kind: api.SCall, Pos: 77, Args: []api.Expr{call}}}}}}
	if got := Check(p); got != (api.Bad{Err: api.ErrName, Pos: -5}) {
		t.Errorf("a call's own place: %v", got)
	}
	p.Funcs[0].Body[0] = api.Stmt{Kind: api.SSet, Pos: 1 << 40, Name: "x", Args: []api.Expr{{Kind: api.ENum, Pos: 3}}}
	if got := Check(p); got != (api.Bad{Err: api.ErrName, Pos: 1 << 40}) {
		t.Errorf("a statement's own place: %v", got)
	}
	p.Funcs[0] = api.Func{Name: "f", Pos: 9}
	if got := Check(p); got != (api.Bad{Err: api.ErrMain}) {
		t.Errorf("no main: %v", got)
	}
}

// costs are texts and what they cost.
var costs = []struct {
	text string
	cost int
}{
	{"fn main() { }", 1}, {"fn main(sec k: u8[4], out sec o: u32[1]) { o[0] = k[0]; }", 1 + 1 + 1 + 2}, {"fn main(pub a: u32[16384]) { }", 1},
	// Expressions: 1 each and what they are made of.
	{"fn main() { let x = 7; }", 1 + 1 + 1}, {"fn main(pub a: u32) { let x = a; }", 3}, {"fn main(pub a: u32) { let x = ~a; }", 4}, {"fn main(pub a: u32) { let x = -a << 3 >> 2; }", 6}, {"fn main(pub a: u32) { let x = ror(a, 31); }", 4}, {"fn main(pub a: u32) { let x = !(a == 31); }", 6},
	{"fn main(pub a: u32) { let x = a + a * a - 1; }", 2 + 7}, {"fn main(pub a: u32) { let x = mulhi(a, 1) ^ carry(1, a); }", 2 + 7}, {"fn main(pub a: u32) { let x = select(a < 1, a, word(a >= 2)); }", 2 + 1 + 3 + 1 + 4}, {"fn main(pub a: u32[2]) { let x = a[a[0]]; }", 2 + 3}, {"fn main(pub a: u32) { let x = (((a))) & a | a; }", 2 + 5},
	// Statements: 1 each and their parts.
	{"fn main() { var pub x: u32; }", 2}, {"fn main() { var pub x: mask; }", 2}, {"fn main() { var pub x: u32[1]; }", 3}, {"fn main() { var pub x: u8[16384]; }", 2 + 16384}, {"fn main() { var pub x: u32[16384]; var sec y: u8[10]; }", 3 + 16384 + 10},
	{"fn main() { var pub x: u32; x = 1 + 2; }", 2 + 4}, {"fn main() { var pub x: u32[3]; x[0] = 1; }", 2 + 3 + 3}, {"fn main() { var pub x: u32[3]; x[x[0]] = x[1] + 1; }", 2 + 3 + 1 + 2 + 4},
	{"fn main() { if 1 == 1 { } }", 1 + 4}, {"fn main() { if 1 == 1 { } else { } }", 1 + 4}, {"fn main() { if 1 == 1 { let x = 1; } else { let x = 2; let y = 3; } }", 1 + 4 + 2 + 4}, {"fn main() { if 1 == 1 { if 2 == 2 { let x = 1; } } }", 1 + 4 + 4 + 2},
	// Loops: their bound once, and one time more than they may be done.
	{"fn main() { for i < 1 max 0 { } }", 1 + 1 + 1 + 1}, {"fn main() { for i < 1 max 1 { } }", 1 + 2 + 2}, {"fn main() { for i < 1 + 2 max 3 { let x = 1; } }", 1 + 1 + 3 + 4*3}, {"fn main() { for i < 5 max 2 { for k < i max 3 { let x = k + 1; } } }", 1 + 2 + 3*(1+2+4*(1+4))}, {"fn main() { for i < 9 max 0 { let x = 1; let y = 2; } }", 1 + 2 + 5},
	// Calls: the function each time, what is handed over besides.
	{"fn f() { } fn main() { f(); }", 1 + 1 + 1 + 1}, {"fn f() { } fn main() { f(); f(); }", 1 + 3 + 3}, {"fn f() { let x = 1; } fn g() { f(); f(); } fn main() { g(); }", 1 + 1 + 1 + (1 + 2*(1+1+3))}, {"fn f(pub a: u32): pub u32 { return a + 1; } fn main() { let x = f(f(1)); }", 1 + 1 + (1 + 5) + (1 + 5) + 1},
	{"fn f(pub a: u32[4], out pub b: u8[2], pub c: u32) { } fn main(pub a: u32[4], out pub b: u8[2]) { f(a, b, 1 + 2); }", 1 + 1 + 1 + 5 + 1}, {"fn f(): pub mask { return 1 == 1; } fn main() { if f() { } for i < 2 max 1 { f(); } }", 1 + (1 + 1 + 5) + 2 + 2*(1+1+1+5)},
	{"fn f() { for i < 3 max 9 { } } fn main() { for i < 2 max 4 { f(); } }", 1 + 2 + 5*(1+1+1+1+2+10)},
	// A function that none calls costs nothing; nor does one ahead that has a loop above all.
	{"fn f() { for i < 1 max 65536 { for k < 1 max 65536 { } } } fn main() { }", 1}, {"fn f() { for i < 1 max 65536 { } } fn g() { f(); } fn main() { let x = 1; }", 3},
	// At the limit, and above.
	{"fn main() { for i < 1 max 65532 { } }", 1 + 2 + 65533}, {"fn main() { for i < 1 max 65530 { } let x = 1; }", 1 + 2 + 65531 + 2},
	{"fn main() { var pub a: u32[16384]; var pub b: u32[16384]; var pub c: u32[16384]; var pub d: u32[16379]; }", 65536}, {"fn main() { for i < 1 max 255 { for k < 1 max 251 { } } let a = 1; }", 1 + 2 + 256*(1+2+252) + 2},
}

// TestCosts looks at what programs cost.
func TestCosts(t *testing.T) {
	for _, x := range costs {
		p, _ := parsed(t, x.text)
		if bad, n := Check(p), Cost(p); bad != (api.Bad{}) || n != x.cost {
			t.Errorf("%s: costs %d (%v), wanted %d", x.text, n, bad, x.cost)
		}
	}
}

// TestTooDear looks at programs that cost more than there is.
func TestTooDear(t *testing.T) {
	deep := func(blocks int, most string) string {
		s := "fn @main() { "
		for k := range blocks {
			s += fmt.Sprintf("for i%d < 1 max %s { ", k, most)
		}
		return s + strings.Repeat("} ", blocks+1)
	}
	doubled := func(functions int) string {
		s := "fn f0() { }"
		for k := range functions {
			s += fmt.Sprintf(" fn f%d() { f%d(); f%d(); }", k+1, k, k)
		}
		return s + fmt.Sprintf(" fn @main() { f%d(); }", functions)
	}
	looped := "fn f0() { }"
	for k := range 40 {
		looped += fmt.Sprintf(" fn f%d() { for i < 1 max 65536 { for k < 1 max 65535 { f%d(); } } }", k+1, k)
	}
	for _, s := range []string{
		"fn @main() { for i < 1 max 65533 { } }", "fn @main() { for i < 1 max 65534 { } }", "fn @main() { for i < 1 max 65535 { } }", "fn @main() { for i < 1 max 65536 { } }",
		"fn @main() { var pub a: u32[16384]; var pub b: u32[16384]; var pub c: u32[16384]; var pub d: u32[16380]; }", "fn @main() { var pub a: u32[16384]; var pub b: u32[16384]; var pub c: u32[16384]; var pub d: u32[16384]; }",
		"fn f() { } fn @main() { for i < 1 max 65531 { } f(); }", "fn f() { for i < 1 max 65536 { } } fn @main() { f(); }", "fn f(): pub u32 { for i < 1 max 65536 { } return 1; } fn @main() { let x = f() + 1; }",
		"fn f(): pub u32 { for i < 1 max 32760 { } return 1; } fn @main() { let x = f() + f(); }", "fn f() { for i < 1 max 32762 { } } fn @main() { f(); f(); }", "fn f() { for i < 1 max 255 { } } fn @main() { for i < 1 max 255 { f(); } }",
		"fn f(): pub mask { for i < 1 max 65536 { } return 1 == 1; } fn @main() { if f() { } }", "fn f(): pub u32 { for i < 1 max 65536 { } return 1; } fn @main() { for i < f() max 0 { } }", "fn @main() { if 1 == 1 { for i < 1 max 32766 { } } else { for i < 1 max 32766 { } } }",
		deep(2, "65536"), deep(4, "65536"), deep(8, "65535"), deep(63, "65536"), deep(63, "1"), deep(40, "2"), deep(17, "1"),
		doubled(16), doubled(31), doubled(32), doubled(62), doubled(63), doubled(64), doubled(65), doubled(300), looped + " fn @main() { f40(); }", looped + " fn @main() { if 1 == 2 { f3(); } }",
	} {
		p, at := parsed(t, s)
		if bad, n := Check(p), Cost(p); bad != (api.Bad{Err: api.ErrLimit, Pos: at}) || n != 65537 {
			t.Errorf("%.200s: costs %d, %v", s, n, bad)
		}
	}
	// What is amiss besides is told instead, and nothing costs anything.
	for _, x := range []row{
		{"fn main() { for i < 1 max 65536 { } let x = @y; }", api.ErrName}, {"fn main(pub @m: mask) { for i < 1 max 65536 { } }", api.ErrMain}, {"fn @main(pub a: u32[16384], pub b: u32[16384]) { for i < 1 max 65536 { } }", api.ErrLimit}, {"@fn f() { for i < 1 max 65536 { } }", api.ErrMain},
		{"fn @main(): pub u32 { for i < 1 max 65536 { } return 1; }", api.ErrMain}, {"fn main() { @for i < 1 max 65537 { } }", api.ErrLimit}, {"fn main() { @var pub a: u32[16385]; }", api.ErrLimit}, {"fn main() { let x = 1 @<< 32; }", api.ErrLimit},
	} {
		told(t, x.text, x.err)
	}
}

// TestLoopsAtTheEdge looks at loops that cost as much as there is, and one more.
func TestLoopsAtTheEdge(t *testing.T) {
	for n := range 40 {
		text := fmt.Sprintf("fn main() { for i < 1 max %d { } let x = 1; }", 65497+n)
		p, _ := parsed(t, text)
		want := min(1+2+65497+n+1+2, 65537)
		if got := Cost(p); got != want || (Check(p).Err == api.OK) != (want <= 65536) {
			t.Errorf("%s: %d, wanted %d", text, got, want)
		}
	}
}

// TestExample is the document's.
func TestExample(t *testing.T) {
	told(t, "fn main(sec k: u8[4], out pub o: u32[1]) { @o[0] = k[0]; }", api.ErrFlow)
	p, _ := parsed(t, "fn main(sec k: u8[4], out sec o: u32[1]) { o[0] = k[0]; }")
	if Check(p) != (api.Bad{}) || Cost(p) != 5 {
		t.Error(Check(p), Cost(p))
	}
	if Array != 16384 || Loop != 65536 || Bytes != 65536 || Steps != 65536 {
		t.Error("the limits are others")
	}
}

// TestSame looks at whether lists that are none and empty ones are alike, nothing handed in is changed, and an answer is the same each time.
func TestSame(t *testing.T) {
	text := in("if pm { vp = open(lp[0] + 1); } else { } for i < 3 max 3 { none(); ls[i] = s; }")
	p, _ := parsed(t, text)
	q, _ := parsed(t, text)
	emptied(q.Funcs)
	want := Cost(p)
	for range 3 {
		if Check(p) != (api.Bad{}) || Check(q) != (api.Bad{}) || Cost(p) != want || Cost(q) != want {
			t.Error("empty lists are others than none", Check(q), Cost(q), want)
		}
		Check(api.Program{Funcs: p.Funcs[:3]})
		Cost(api.Program{Funcs: append(slices.Clone(p.Funcs), p.Funcs[1])})
	}
	if r, _ := parsed(t, text); !reflect.DeepEqual(p, r) {
		t.Error("a program was changed")
	}
	if Check(api.Program{}) != (api.Bad{Err: api.ErrMain}) || Check(api.Program{Funcs: []api.Func{}}) != (api.Bad{Err: api.ErrMain}) || Cost(api.Program{}) != 0 || Cost(api.Program{Funcs: []api.Func{}}) != 0 {
		t.Error("a program of no function")
	}
}

// emptied makes all lists that are none empty ones.
func emptied(l []api.Func) {
	for k := range l {
		f := &l[k]
		if f.Params == nil {
			f.Params = []api.Param{}
		}
		f.Body = emptiedBlock(f.Body)
	}
}

// emptiedBlock tells a block in which all lists that are none are empty ones.
func emptiedBlock(l []api.Stmt) []api.Stmt {
	for k := range l {
		s := &l[k]
		s.Args, s.Body, s.Else = emptiedArgs(s.Args), emptiedBlock(s.Body), emptiedBlock(s.Else)
	}
	return append([]api.Stmt{}, l...)
}

// emptiedArgs does so with expressions.
func emptiedArgs(l []api.Expr) []api.Expr {
	for k := range l {
		l[k].Args = emptiedArgs(l[k].Args)
	}
	return append([]api.Expr{}, l...)
}

// TestBehindTheEnd looks at whether what stands behind a list's end stays as it is.
func TestBehindTheEnd(t *testing.T) {
	p, _ := parsed(t, "fn f() { } fn g(pub a: u32, pub b: u32) { let x = a; let y = b; } fn main() { }")
	q := api.Program{Funcs: p.Funcs[:2:2]}
	q.Funcs = p.Funcs[:2]
	q.Funcs[1].Body, q.Funcs[1].Params = q.Funcs[1].Body[:1], q.Funcs[1].Params[:1]
	if Check(q) != (api.Bad{Err: api.ErrMain}) {
		t.Error(Check(q))
	}
	if p.Funcs[2].Name != "main" || p.Funcs[1].Body[:2][1].Name != "y" || p.Funcs[1].Params[:2][1].Name != "b" {
		t.Error("what stands behind a list's end was changed")
	}
}

// TestTogether asks from several sides at once: nothing is kept between calls.
func TestTogether(t *testing.T) {
	right, _ := parsed(t, in("vp = open(1);"))
	wrong, at := parsed(t, in("@vp = s;"))
	cost := Cost(right)
	done := make(chan bool)
	for range 8 {
		go func() {
			ok := true
			for range 50 {
				ok = ok && Check(right) == api.Bad{} && Cost(right) == cost && Check(wrong) == api.Bad{Err: api.ErrFlow, Pos: at} && Cost(wrong) == 0
			}
			done <- ok
		}()
	}
	for range 8 {
		if !<-done {
			t.Error("another answer")
		}
	}
}

// TestChance holds what is told of programs of chance, right ones and spoiled ones, against the document's words.
func TestChance(t *testing.T) {
	r := rand.New(rand.NewPCG(14, 1))
	count := map[api.Errno]int{}
	right := 0
	for k := range 2500 {
		p := programOf(r, 10+r.IntN(120))
		bad, n := wanted(p)
		if bad.Err != api.OK && n == 0 {
			t.Fatalf("program %d is amiss: %v\n%s", k, bad, text(p))
		}
		if bad.Err == api.OK {
			right++
		}
		if got := Check(p); got != bad || Cost(p) != n {
			t.Fatalf("program %d: %v and %d, wanted %v and %d\n%s", k, got, Cost(p), bad, n, text(p))
		}
		for range 6 {
			q := spoiled(r, p)
			before := copied(q)
			bad, n := wanted(q)
			count[bad.Err]++
			if got := Check(q); got != bad || Cost(q) != n {
				t.Fatalf("spoiled %d: %v and %d, wanted %v and %d\n%s", k, got, Cost(q), bad, n, text(q))
			}
			if !reflect.DeepEqual(q, before) {
				t.Fatalf("spoiled %d was changed", k)
			}
		}
	}
	if right < 2000 {
		t.Errorf("%d programs were right", right)
	}
	for _, err := range []api.Errno{api.OK, api.ErrArg, api.ErrName, api.ErrTwice, api.ErrType, api.ErrFlow, api.ErrArity, api.ErrMain, api.ErrLimit} {
		if count[err] < 100 {
			t.Errorf("error %d came about %d times", err, count[err])
		}
	}
}

// text tells a program's text, as far as it has one.
func text(p api.Program) string {
	s, _ := prose.Program(p)
	return s
}

// TestPublic makes all labels public of programs that may be: they still may, and cost as much.
func TestPublic(t *testing.T) {
	r := rand.New(rand.NewPCG(14, 2))
	secrets := 0
	public := func(p api.Program) {
		if Check(p) != (api.Bad{}) {
			return
		}
		q := copied(p)
		l := partsOf(&q)
		for _, x := range l.params {
			secrets += x.Type.Label
			x.Type.Label = api.Pub
		}
		for _, x := range l.stmts {
			x.Type.Label = api.Pub
		}
		for _, x := range l.funcs {
			x.Result.Label = api.Pub
		}
		if bad := Check(q); bad != (api.Bad{}) || Cost(q) != Cost(p) {
			t.Fatalf("public, it is amiss: %v\n%s", bad, text(p))
		}
	}
	for range 1500 {
		p := programOf(r, 10+r.IntN(150))
		public(p)
		public(spoiled(r, p))
	}
	for _, x := range costs {
		p, _ := parsed(t, x.text)
		public(p)
	}
	p, _ := parsed(t, in("vs = s; ms = hide(sm); fill(os); fill(ls); pour(ds); vs = mix(ip, os, 1) + shut(s); ls[p] = bs[p]; let x = select(sm, s, p);"))
	public(p)
	if secrets < 1500 {
		t.Errorf("there were %d secret parameters", secrets)
	}
}

// TestNotMade looks at programs that no text may have: prose's errors, at 0, whatever else is amiss.
func TestNotMade(t *testing.T) {
	one := api.Expr{Kind: api.ENum, Pos: 1, Num: 1}
	a := api.Expr{Kind: api.EName, Pos: 2, Name: "a"}
	var exprs []api.Expr
	for _, kind := range []int{-1, 0, 27, 1 << 40} {
		exprs = append(exprs, api.Expr{Kind: kind}, api.Expr{Kind: kind, Args: []api.Expr{one, one}})
	}
	for kind := api.ENum; kind <= api.EWord; kind++ {
		for count := range 5 {
			x := api.Expr{Kind: kind, Pos: 3, Args: slices.Repeat([]api.Expr{one}, count)}
			if kind == api.EName || kind == api.EIndex || kind == api.ECall {
				x.Name = "a"
			}
			if kind != api.ECall && count != argsOf(kind) {
				exprs = append(exprs, x)
			}
		}
		x := api.Expr{Kind: kind, Pos: 3, Args: slices.Repeat([]api.Expr{one}, argsOf(kind)), Name: "a"}
		if kind == api.EName || kind == api.EIndex || kind == api.ECall {
			x.Name = ""
			exprs = append(exprs, x)
			x.Name = "1"
			exprs = append(exprs, x)
			x.Name, x.Num = "a", 1
		}
		exprs = append(exprs, x)
		x.Name, x.Num = "", -1
		exprs = append(exprs, x)
		x.Num = 1 << 32
		exprs = append(exprs, x)
	}
	var stmts []api.Stmt
	for _, x := range exprs {
		stmts = append(stmts, api.Stmt{Kind: api.SLet, Name: "x", Args: []api.Expr{x}}, api.Stmt{Kind: api.SLet, Name: "x", Args: []api.Expr{{Kind: api.ENeg, Args: []api.Expr{x}}}})
	}
	call := api.Expr{Kind: api.ECall, Name: "f"}
	stmts = append(stmts,
		api.Stmt{}, api.Stmt{Kind: 9}, api.Stmt{Kind: -1}, api.Stmt{Kind: api.SLet, Name: "x"}, api.Stmt{Kind: api.SLet, Args: []api.Expr{one}}, api.Stmt{Kind: api.SLet, Name: "let", Args: []api.Expr{one}}, api.Stmt{Kind: api.SLet, Name: "x", Args: []api.Expr{one, one}},
		api.Stmt{Kind: api.SLet, Name: "x", Args: []api.Expr{one}, Most: 1}, api.Stmt{Kind: api.SLet, Name: "x", Args: []api.Expr{one}, Type: api.Type{Label: 1}}, api.Stmt{Kind: api.SLet, Name: "x", Args: []api.Expr{one}, Body: []api.Stmt{{Kind: api.SCall, Args: []api.Expr{call}}}}, api.Stmt{Kind: api.SLet, Name: "x", Args: []api.Expr{one}, Has: true},
		api.Stmt{Kind: api.SVar, Name: "x", Args: []api.Expr{one}}, api.Stmt{Kind: api.SVar}, api.Stmt{Kind: api.SVar, Name: "x", Type: api.Type{Elem: 3}}, api.Stmt{Kind: api.SVar, Name: "x", Type: api.Type{Elem: api.TU8}}, api.Stmt{Kind: api.SVar, Name: "x", Type: api.Type{Elem: api.TMask, Len: 1}}, api.Stmt{Kind: api.SVar, Name: "x", Type: api.Type{Label: 2}}, api.Stmt{Kind: api.SVar, Name: "x", Type: api.Type{Len: -1}}, api.Stmt{Kind: api.SVar, Name: "x", Type: api.Type{Len: 1 << 32}},
		api.Stmt{Kind: api.SSet, Name: "x"}, api.Stmt{Kind: api.SSet, Args: []api.Expr{one}}, api.Stmt{Kind: api.SStore, Name: "a", Args: []api.Expr{one}}, api.Stmt{Kind: api.SStore, Name: "a", Args: []api.Expr{one, one, one}}, api.Stmt{Kind: api.SStore, Name: "a"},
		api.Stmt{Kind: api.SIf}, api.Stmt{Kind: api.SIf, Name: "x", Args: []api.Expr{one}}, api.Stmt{Kind: api.SIf, Args: []api.Expr{one}, Else: []api.Stmt{{Kind: api.SCall, Args: []api.Expr{call}}}}, api.Stmt{Kind: api.SIf, Args: []api.Expr{one}, Body: []api.Stmt{{}}}, api.Stmt{Kind: api.SIf, Args: []api.Expr{one}, Has: true, Else: []api.Stmt{{}}},
		api.Stmt{Kind: api.SFor, Name: "x"}, api.Stmt{Kind: api.SFor, Args: []api.Expr{one}}, api.Stmt{Kind: api.SFor, Name: "x", Args: []api.Expr{one}, Most: -1}, api.Stmt{Kind: api.SFor, Name: "x", Args: []api.Expr{one}, Most: 1 << 32}, api.Stmt{Kind: api.SFor, Name: "x", Args: []api.Expr{one}, Has: true},
		api.Stmt{Kind: api.SCall}, api.Stmt{Kind: api.SCall, Args: []api.Expr{a}}, api.Stmt{Kind: api.SCall, Args: []api.Expr{call, call}}, api.Stmt{Kind: api.SCall, Name: "f", Args: []api.Expr{call}}, api.Stmt{Kind: api.SReturn}, api.Stmt{Kind: api.SReturn, Name: "x", Args: []api.Expr{one}}, api.Stmt{Kind: api.SReturn, Args: []api.Expr{one, one}},
	)
	funcs := []api.Func{
		{}, {Name: "1"}, {Name: "fn"}, {Name: "f g"}, {Name: "f", Result: api.Type{Label: 1}}, {Name: "f", Has: true, Result: api.Type{Len: 1}}, {Name: "f", Has: true, Result: api.Type{Elem: api.TU8, Len: 1}}, {Name: "f", Has: true, Result: api.Type{Label: -1}},
		{Name: "f", Params: []api.Param{{}}}, {Name: "f", Params: []api.Param{{Name: "u8"}}}, {Name: "f", Params: []api.Param{{Name: "a", Type: api.Type{Elem: api.TU8}}}}, {Name: "f", Params: []api.Param{{Name: "a", Type: api.Type{Elem: -1}}}}, {Name: "f", Params: []api.Param{{Name: "a", Type: api.Type{Elem: api.TMask, Len: 4}}}}, {Name: "f", Params: []api.Param{{Name: "a"}, {Name: "b", Type: api.Type{Label: 7}}}}, {Name: strings.Repeat("z", 41)},
	}
	for _, s := range stmts {
		funcs = append(funcs, api.Func{Name: "f", Body: []api.Stmt{s}})
	}
	// What is amiss ahead of it, or behind, does not matter.
	wrong := api.Func{Name: "f", Pos: 40, Body: []api.Stmt{{Kind: api.SSet, Pos: 41, Name: "y", Args: []api.Expr{a}}}}
	for _, f := range funcs {
		for _, l := range [][]api.Func{{f}, {{Name: "main"}, f}, {f, {Name: "main"}}, {wrong, wrong, f}, {f, wrong}} {
			p := api.Program{Funcs: l}
			if got := Check(p); got != (api.Bad{Err: api.ErrArg}) || Cost(p) != 0 {
				t.Errorf("%+v: %v, %d", f, got, Cost(p))
			}
		}
	}
}

// argsOf tells of how many a kind of expression is made; 1 of a call.
func argsOf(kind int) int {
	switch kind {
	case api.ENum, api.EName:
		return 0
	case api.EIndex, api.ECall, api.ENot, api.ENeg, api.EFlip, api.EShl, api.EShr, api.ERor, api.EWord:
		return 1
	case api.ESelect:
		return 3
	}
	return 2
}

// TestTooDeep looks at nests within others: prose's error, at 0.
func TestTooDeep(t *testing.T) {
	for _, nests := range []int{62, 63, 64, 65, 100, 5000} {
		x := api.Expr{Kind: api.ENum, Num: 1}
		for range nests {
			x = api.Expr{Kind: api.ENeg, Pos: 4, Args: []api.Expr{x}}
		}
		let := api.Stmt{Kind: api.SLet, Name: "x", Pos: 9, Args: []api.Expr{x}}
		p := api.Program{Funcs: []api.Func{{Name: "main", Pos: 5, Body: []api.Stmt{let}}}}
		want, cost := api.Bad{}, nests+3
		if nests > 63 {
			want, cost = api.Bad{Err: api.ErrDeep}, 0
		}
		if got := Check(p); got != want || Cost(p) != cost {
			t.Errorf("%d signs: %v, %d", nests, got, Cost(p))
		}
		l := []api.Stmt{{Kind: api.SSet, Pos: 7, Name: "y", Args: []api.Expr{{Kind: api.ENum}}}}
		for range nests {
			l = []api.Stmt{{Kind: api.SIf, Args: []api.Expr{{Kind: api.EEq, Args: []api.Expr{{Kind: api.ENum}, {Kind: api.ENum}}}}, Body: l}}
		}
		if want = (api.Bad{Err: api.ErrName, Pos: 7}); nests > 63 {
			want = api.Bad{Err: api.ErrDeep}
		}
		p = api.Program{Funcs: []api.Func{{Name: "main", Pos: 5, Body: l}}}
		if got := Check(p); got != want || Cost(p) != 0 {
			t.Errorf("%d blocks: %v, %d", nests, got, Cost(p))
		}
	}
}

// TestLong looks at programs of many parts: what goes on to the left, many statements, functions, parameters.
func TestLong(t *testing.T) {
	one := api.Expr{Kind: api.ENum, Num: 1}
	x := one
	for range 32766 {
		x = api.Expr{Kind: api.EAdd, Args: []api.Expr{x, one}}
	}
	main := api.Func{Name: "main", Pos: 3, Body: []api.Stmt{{Kind: api.SLet, Name: "x", Args: []api.Expr{x}}}}
	p := api.Program{Funcs: []api.Func{main}}
	if Check(p) != (api.Bad{}) || Cost(p) != 65535 {
		t.Errorf("a long sum: %v, %d", Check(p), Cost(p))
	}
	main.Body[0].Args[0] = api.Expr{Kind: api.EAdd, Args: []api.Expr{x, one}}
	if Check(p) != (api.Bad{Err: api.ErrLimit, Pos: 3}) || Cost(p) != 65537 {
		t.Errorf("a longer sum: %v, %d", Check(p), Cost(p))
	}
	p = api.Program{}
	for k := range 20000 {
		p.Funcs = append(p.Funcs, api.Func{Name: fmt.Sprintf("f%d", k), Pos: k, Body: []api.Stmt{{Kind: api.SLet, Name: "x", Args: []api.Expr{one}}}})
		if k > 0 {
			p.Funcs[k].Body = append(p.Funcs[k].Body, api.Stmt{Kind: api.SCall, Args: []api.Expr{{Kind: api.ECall, Name: fmt.Sprintf("f%d", k-1)}}})
		}
	}
	p.Funcs[19999].Name = "main"
	if Check(p) != (api.Bad{Err: api.ErrLimit, Pos: 19999}) || Cost(p) != 65537 {
		t.Errorf("many functions: %v, %d", Check(p), Cost(p))
	}
	p.Funcs = slices.Delete(p.Funcs, 10000, 10001)
	if bad := Check(p); bad.Err != api.ErrName || Cost(p) != 0 {
		t.Errorf("a gap among many functions: %v, %d", bad, Cost(p))
	}
	var l []api.Stmt
	for k := range 30000 {
		l = append(l, api.Stmt{Kind: api.SLet, Pos: k, Name: fmt.Sprintf("x%d", k), Args: []api.Expr{one}})
	}
	p = api.Program{Funcs: []api.Func{{Name: "main", Pos: 3, Body: l}}}
	if Check(p) != (api.Bad{}) || Cost(p) != 60001 {
		t.Errorf("many names: %v, %d", Check(p), Cost(p))
	}
	l[29999].Name = "x0"
	if Check(p) != (api.Bad{Err: api.ErrTwice, Pos: 29999}) || Cost(p) != 0 {
		t.Errorf("many names, one twice: %v, %d", Check(p), Cost(p))
	}
}
