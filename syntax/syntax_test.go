package syntax

import (
	"fmt"
	"math/rand/v2"
	"slices"
	"strconv"
	"strings"
	"testing"
	"unsafe"

	"hauberk/api"
	"hauberk/lex"
)

// The kinds by names that are short.
var (
	kinds = map[int]string{
		api.ENum: "num", api.EName: "name", api.EIndex: "index", api.ECall: "call", api.ENot: "not", api.ENeg: "neg", api.EFlip: "flip",
		api.EAdd: "add", api.ESub: "sub", api.EMul: "mul", api.EAnd: "and", api.EOr: "or", api.EXor: "xor", api.EShl: "shl", api.EShr: "shr", api.ERor: "ror",
		api.EEq: "eq", api.ENe: "ne", api.ELt: "lt", api.ELe: "le", api.EGt: "gt", api.EGe: "ge", api.EHigh: "high", api.ECarry: "carry", api.ESelect: "select", api.EWord: "word",
	}
	doings = map[int]string{api.SLet: "let", api.SVar: "var", api.SSet: "set", api.SStore: "store", api.SIf: "if", api.SFor: "for", api.SCall: "do", api.SReturn: "return"}
)

// field tells a field that is not empty, behind a sign.
func field(sign, s string) string {
	if s == "" || s == "0" {
		return ""
	}
	return sign + s
}

// expression tells all fields of an expression, its places reckoned from one on: kind'name#number@place(what it is made of).
func expression(x api.Expr, from int) string {
	s := kinds[x.Kind] + field("'", x.Name) + field("#", strconv.Itoa(x.Num)) + "@" + strconv.Itoa(x.Pos-from)
	return s + field("", wrapped(x.Args, from))
}

// wrapped tells expressions in parentheses; nothing, if there are none.
func wrapped(l []api.Expr, from int) string {
	var out []string
	for _, x := range l {
		out = append(out, expression(x, from))
	}
	if len(out) == 0 {
		return ""
	}
	return "(" + strings.Join(out, " ") + ")"
}

// typed tells a type: label, what it is of, and its length.
func typed(x api.Type) string {
	if x == (api.Type{}) {
		return ""
	}
	return fmt.Sprintf("%d.%d.%d", x.Label, x.Elem, x.Len)
}

// statement tells all fields of a statement: kind'name:type^most@place(expressions){block}else{block}.
func statement(x api.Stmt, from int) string {
	s := doings[x.Kind] + field("'", x.Name) + field(":", typed(x.Type)) + field("^", strconv.Itoa(x.Most)) + "@" + strconv.Itoa(x.Pos-from) + wrapped(x.Args, from)
	if x.Kind == api.SIf || x.Kind == api.SFor || len(x.Body) > 0 {
		s += statements(x.Body, from)
	}
	if x.Has {
		s += "else" + statements(x.Else, from)
	} else if len(x.Else) > 0 {
		s += "without else" + statements(x.Else, from)
	}
	return s
}

// statements tells statements in braces.
func statements(l []api.Stmt, from int) string {
	var out []string
	for _, x := range l {
		out = append(out, statement(x, from))
	}
	return "{" + strings.Join(out, " ") + "}"
}

// functions tells all fields of a program: fn'name@place(parameters)result{block}.
func functions(p api.Program, from int) string {
	var out []string
	for _, f := range p.Funcs {
		s := "fn" + field("'", f.Name) + "@" + strconv.Itoa(f.Pos-from) + "("
		for k, x := range f.Params {
			s += strings.Repeat(" ", min(k, 1)) + field("'", x.Name) + ":" + fmt.Sprintf("%d.%d.%d", x.Type.Label, x.Type.Elem, x.Type.Len) + "@" + strconv.Itoa(x.Pos-from) + map[bool]string{true: "out"}[x.Out]
		}
		s += ")"
		if f.Has {
			s += fmt.Sprintf("%d.%d.%d", f.Result.Label, f.Result.Elem, f.Result.Len)
		} else if f.Result != (api.Type{}) {
			s += "none but " + typed(f.Result)
		}
		out = append(out, s+statements(f.Body, from))
	}
	return strings.Join(out, " ")
}

// parsed fails if Parse does not tell that program.
func parsed(t *testing.T, s, want string) {
	t.Helper()
	p, bad := Parse(s)
	if got := functions(p, 0); bad != (api.Bad{}) || got != want {
		t.Errorf("Parse(%s) = %+v\n%s, want\n%s", short(s), bad, short(got), short(want))
	}
}

// refused fails if Parse does not tell that error, or a program beside it.
func refused(t *testing.T, s string, e api.Errno, pos int) {
	t.Helper()
	if p, bad := Parse(s); bad != (api.Bad{Err: e, Pos: pos}) || len(p.Funcs) != 0 {
		t.Errorf("Parse(%s) = %d functions, %+v, want %v at %d", short(s), len(p.Funcs), bad, e, pos)
	}
}

// right fails if Parse tells an error.
func right(t *testing.T, s string) {
	t.Helper()
	if _, bad := Parse(s); bad != (api.Bad{}) {
		t.Errorf("Parse(%s) tells %+v", short(s), bad)
	}
}

// What stands ahead of statements, and of an expression.
const (
	aheadOfStatements = "fn f() { "
	aheadOfValue      = "fn f() { x = "
)

// does fails if statements are not made so; places are reckoned from the first one on.
func does(t *testing.T, s, want string) {
	t.Helper()
	text := aheadOfStatements + s + " }"
	p, bad := Parse(text)
	if bad != (api.Bad{}) || len(p.Funcs) != 1 {
		t.Errorf("Parse(%s) tells %+v", short(text), bad)
		return
	}
	if got := statements(p.Funcs[0].Body, len(aheadOfStatements)); got != "{"+want+"}" {
		t.Errorf("%s is made\n%s, want\n{%s}", short(s), short(got), want)
	}
}

// doesNot fails if statements do not have that error, its place reckoned from the first one on.
func doesNot(t *testing.T, s string, e api.Errno, pos int) {
	t.Helper()
	refused(t, aheadOfStatements+s+" }", e, pos+len(aheadOfStatements))
}

// value tells the expression of a text that is right.
func value(t *testing.T, s string) api.Expr {
	t.Helper()
	p, bad := Parse(aheadOfValue + s + "; }")
	if bad != (api.Bad{}) || len(p.Funcs) != 1 || len(p.Funcs[0].Body) != 1 || len(p.Funcs[0].Body[0].Args) != 1 {
		t.Errorf("of %s there is %+v", short(s), bad)
		return api.Expr{}
	}
	return p.Funcs[0].Body[0].Args[0]
}

// means fails if an expression is not made so; places are reckoned from its beginning on.
func means(t *testing.T, s, want string) {
	t.Helper()
	if got := expression(value(t, s), len(aheadOfValue)); got != want {
		t.Errorf("%s is made\n%s, want\n%s", short(s), short(got), short(want))
	}
}

// meansNot fails if an expression does not have that error, its place reckoned from its beginning on.
func meansNot(t *testing.T, s string, e api.Errno, pos int) {
	t.Helper()
	refused(t, aheadOfValue+s+"; }", e, pos+len(aheadOfValue))
}

// tokens tells the tokens of a right text but that of its end.
func tokens(s string) []api.Token {
	l, _ := lex.Lex(s)
	return l[:len(l)-1]
}

// The constant of the chapter's head, and its examples.

func TestConstant(t *testing.T) {
	if Deep != 64 {
		t.Errorf("%d, want 64", Deep)
	}
	// It is a plain number, without a type of its own.
	var _ = []uint8{Deep}
}

func TestExamples(t *testing.T) {
	parsed(t, "fn f() { x = 1 + 2 * y; }", "fn'f@3(){set'x@9(add@15(num#1@13 mul@19(num#2@17 name'y@21)))}")
	refused(t, "fn f() { x = a < b < c; }", api.ErrSyntax, 19)
}

func TestWholeProgram(t *testing.T) {
	parsed(t, "fn main(sec a: u32, out sec o: u32[1]) { o[0] = a + 1; }",
		"fn'main@3('a:1.0.0@12 'o:1.0.1@28out){store'o@41(num@43 add@50(name'a@48 num#1@52))}")
}

// P12.1: functions

func TestNoFunctions(t *testing.T) {
	for _, s := range []string{"", " ", "\n", "\t\r\n  ", "//", "// fn f() { }", "// a\n", "//\n//", " // x = = 1\n\n// #\n"} {
		parsed(t, s, "")
	}
}

func TestFunctionsOneBehindTheOther(t *testing.T) {
	parsed(t, "fn f() {}", "fn'f@3(){}")
	parsed(t, "fn f(){}fn g(){}", "fn'f@3(){} fn'g@11(){}")
	parsed(t, "// a\nfn\nf\n(\n)\n{\n}\n// b\nfn g() { }// c", "fn'f@8(){} fn'g@26(){}")
	parsed(t, "fn f() {} fn f() {} fn f() {}", "fn'f@3(){} fn'f@13(){} fn'f@23(){}")
	parsed(t, "fn f() { x = 1; } fn g(pub a: u32): sec mask { return b; } fn main() { }",
		"fn'f@3(){set'x@9(num#1@13)} fn'g@21('a:0.0.0@27)1.1.0{return@47(name'b@54)} fn'main@62(){}")
	var s, want []string
	for k := range 100 {
		s = append(s, "fn f"+strconv.Itoa(1000+k)+"() {}")
		want = append(want, "fn'f"+strconv.Itoa(1000+k)+"@"+strconv.Itoa(14*k+3)+"(){}")
	}
	parsed(t, strings.Join(s, "\n"), strings.Join(want, " "))
}

// allTypes are types as they are written, and as they are told behind their label.
var allTypes = []struct{ text, want string }{
	{"u32", "0.0"}, {"mask", "1.0"}, {"u8[1]", "2.1"}, {"u8[7]", "2.7"}, {"u32[1]", "0.1"}, {"u32[16384]", "0.16384"}, {"u8[16385]", "2.16385"},
	{"u8[4294967295]", "2.4294967295"}, {"u32[0xffffffff]", "0.4294967295"}, {"u32[0x0a]", "0.10"}, {"u8 [ 3 ]", "2.3"}, {"u32//\n[//\n4//\n]", "0.4"},
}

func TestEachParameter(t *testing.T) {
	for _, out := range []string{"", "out "} {
		for label, word := range []string{"pub", "sec"} {
			for _, x := range allTypes {
				want := fmt.Sprintf("'a:%d.%s@%d%s", label, x.want, 5+len(out)+4, strings.TrimSpace(out))
				p := out + word + " a: " + x.text
				parsed(t, "fn f("+p+") {}", "fn'f@3("+want+"){}")
				second := fmt.Sprintf("'b:%d.%s@%d%s", label, x.want, 5+len(p)+2+len(out)+4, strings.TrimSpace(out))
				parsed(t, "fn f("+p+", "+out+word+" b: "+x.text+"): pub u32 {}", "fn'f@3("+want+" "+second+")0.0.0{}")
			}
		}
	}
}

func TestManyParameters(t *testing.T) {
	for _, n := range []int{1, 2, 3, 10, 63, 64, 65, 100, 5000} {
		var s, want []string
		for k := range n {
			s = append(s, "pub a: u32")
			want = append(want, "'a:0.0.0@"+strconv.Itoa(5+11*k+4))
		}
		parsed(t, "fn f("+strings.Join(s, ",")+") {}", "fn'f@3("+strings.Join(want, " ")+"){}")
	}
}

func TestEachResult(t *testing.T) {
	parsed(t, "fn f(): pub u32 {}", "fn'f@3()0.0.0{}")
	parsed(t, "fn f(): sec u32 {}", "fn'f@3()1.0.0{}")
	parsed(t, "fn f(): pub mask {}", "fn'f@3()0.1.0{}")
	parsed(t, "fn f(): sec mask {}", "fn'f@3()1.1.0{}")
	p, _ := Parse("fn f(): pub u32 {} fn g() {}")
	if len(p.Funcs) != 2 || !p.Funcs[0].Has || p.Funcs[1].Has {
		t.Errorf("%+v: the first one alone has a result", p)
	}
}

func TestHeadsThatAreNone(t *testing.T) {
	for _, x := range []struct {
		s   string
		pos int
	}{
		{"x", 0}, {"f", 0}, {"{", 0}, {"}", 0}, {"0", 0}, {"(", 0}, {"let x = 1;", 0}, {"pub", 0}, {" x", 1}, {"// a\nx", 5}, {"fnf() {}", 0},
		{"fn", 2}, {"fn ", 3}, {"fn 1", 3}, {"fn fn", 3}, {"fn (", 3}, {"fn mask() {}", 3}, {"fn word() {}", 3}, {"fn f", 4}, {"fn f {}", 5}, {"fn f[", 4}, {"fn f g", 5},
		{"fn f(", 5}, {"fn f(,", 5}, {"fn f({", 5}, {"fn f((", 5}, {"fn f(1", 5}, {"fn f(a", 5}, {"fn f(a: u32) {}", 5}, {"fn f(u32 a) {}", 5}, {"fn f(mask", 5}, {"fn f(let", 5},
		{"fn f(out", 8}, {"fn f(out a", 9}, {"fn f(out out", 9}, {"fn f(out)", 8}, {"fn f(pub out a", 9}, {"fn f(sec out", 9}, {"fn f(pub sec", 9}, {"fn f(pub pub a", 9},
		{"fn f(pub", 8}, {"fn f(pub)", 8}, {"fn f(pub 1", 9}, {"fn f(pub u32", 9}, {"fn f(pub a", 10}, {"fn f(pub a)", 10}, {"fn f(pub a,", 10}, {"fn f(pub a u32", 11}, {"fn f(pub a = ", 11},
		{"fn f(pub a:", 11}, {"fn f(pub a:)", 11}, {"fn f(pub a: 1", 12}, {"fn f(pub a: b", 12}, {"fn f(pub a: pub", 12}, {"fn f(pub a: u8", 14}, {"fn f(pub a: u8)", 14}, {"fn f(pub a: u8,", 14},
		{"fn f(pub a: u8(", 14}, {"fn f(pub a: mask[", 16}, {"fn f(pub a: u32(", 15}, {"fn f(pub a: u32 32", 16}, {"fn f(pub a: u32 mask", 16},
		{"fn f(pub a: u8[", 15}, {"fn f(pub a: u8[]", 15}, {"fn f(pub a: u8[b", 15}, {"fn f(pub a: u8[-", 15}, {"fn f(pub a: u8[(", 15}, {"fn f(pub a: u8[max", 15}, {"fn f(pub a: u32[]", 16},
		{"fn f(pub a: u8[1", 16}, {"fn f(pub a: u8[1)", 16}, {"fn f(pub a: u8[1 2", 17}, {"fn f(pub a: u8[1+", 16}, {"fn f(pub a: u8[1,", 16}, {"fn f(pub a: u8[1]", 17}, {"fn f(pub a: u8[1][", 17},
		{"fn f(pub a: u32", 15}, {"fn f(pub a: u32,", 16}, {"fn f(pub a: u32,)", 16}, {"fn f(pub a: u32,,", 16}, {"fn f(pub a: u32, b", 17}, {"fn f(pub a: u32; pub", 15}, {"fn f(pub a: u32 pub b", 16}, {"fn f(pub a, b", 10},
		{"fn f()", 6}, {"fn f())", 6}, {"fn f();", 6}, {"fn f() x", 7}, {"fn f() fn", 7}, {"fn f() pub", 7}, {"fn f() -> u32", 7}, {"fn f()(", 6}, {"fn f() = ", 7},
		{"fn f():", 7}, {"fn f(): u32 {}", 8}, {"fn f(): {}", 8}, {"fn f(): mask", 8}, {"fn f(): out", 8}, {"fn f(): a", 8}, {"fn f(): 1", 8}, {"fn f(): pub", 11}, {"fn f(): pub {}", 12}, {"fn f(): pub sec", 12},
		{"fn f(): pub u8", 12}, {"fn f(): sec u8[4] {}", 12}, {"fn f(): pub a", 12}, {"fn f(): sec u32[4] {}", 15}, {"fn f(): sec mask[4] {}", 16}, {"fn f(): pub u32", 15}, {"fn f(): pub u32 :", 16}, {"fn f(): pub u32 u32", 16},
		{"fn f() {", 8}, {"fn f() { ", 9}, {"fn f() {} x", 10}, {"fn f() {} }", 10}, {"fn f() {} {", 10}, {"fn f() {};", 9}, {"fn f() { } fn", 13}, {"fn f() { fn g() {} }", 9},
	} {
		refused(t, x.s, api.ErrSyntax, x.pos)
	}
}

func TestLengthsOfNothing(t *testing.T) {
	for _, n := range []string{"0", "0x0", "0x00", "0x00000000"} {
		for _, u := range []string{"u8[", "u32["} {
			for _, h := range []string{"fn f(pub a: ", "fn f(out sec a: ", "fn f(pub b: u8[1], sec a: "} {
				refused(t, h+u+n+"]) {}", api.ErrSyntax, len(h+u))
				refused(t, h+u+n, api.ErrSyntax, len(h+u))
				refused(t, h+u+n+" #", api.ErrLex, len(h+u+n)+1)
			}
			doesNot(t, "var pub a: "+u+n+"];", api.ErrSyntax, 11+len(u))
			doesNot(t, "if a { var sec a: "+u+n+"]; }", api.ErrSyntax, 18+len(u))
		}
		// Other numbers may be 0.
		means(t, "a["+n+"]", "index'a@0(num@2)")
		means(t, "a << "+n, "shl@2(name'a@0)")
		means(t, "a >> "+n, "shr@2(name'a@0)")
		means(t, "ror(a, "+n+")", "ror@0(name'a@4)")
		means(t, n, "num@0")
		does(t, "for i < n max "+n+" { }", "for'i@0(name'n@8){}")
	}
}

// P12.1: statements

func TestEachStatement(t *testing.T) {
	does(t, "", "")
	does(t, "let x = 1;", "let'x@0(num#1@8)")
	does(t, "let  y=a+b ;", "let'y@0(add@8(name'a@7 name'b@9))")
	does(t, "x = 1;", "set'x@0(num#1@4)")
	does(t, "x = x;", "set'x@0(name'x@4)")
	does(t, "x[0] = 1;", "store'x@0(num@2 num#1@7)")
	does(t, "x[i + 1] = y[2];", "store'x@0(add@4(name'i@2 num#1@6) index'y@11(num#2@13))")
	does(t, "x[y[z[3]]] = x[4];", "store'x@0(index'y@2(index'z@4(num#3@6)) index'x@13(num#4@15))")
	does(t, "g();", "do@0(call'g@0)")
	does(t, "g(1);", "do@0(call'g@0(num#1@2))")
	does(t, "g(1, h(), a[2]);", "do@0(call'g@0(num#1@2 call'h@5 index'a@10(num#2@12)))")
	does(t, "return 1;", "return@0(num#1@7)")
	does(t, "return !m;", "return@0(flip@7(name'm@8))")
	does(t, "if a { }", "if@0(name'a@3){}")
	does(t, "if a { } else { }", "if@0(name'a@3){}else{}")
	does(t, "if a == 1 { x = 2; } else { y = 3; }", "if@0(eq@5(name'a@3 num#1@8)){set'x@12(num#2@16)}else{set'y@28(num#3@32)}")
	does(t, "if a { } else { y = 3; }", "if@0(name'a@3){}else{set'y@16(num#3@20)}")
	does(t, "for i < n max 9 { }", "for'i^9@0(name'n@8){}")
	does(t, "for i < n max 4294967295 { x = i; }", "for'i^4294967295@0(name'n@8){set'x@27(name'i@31)}")
	does(t, "for i < 3 max 0x10 { }", "for'i^16@0(num#3@8){}")
	does(t, "for i < a < b max 1 { }", "for'i^1@0(lt@10(name'a@8 name'b@12)){}")
	does(t, "for i < a[i] + 1 max 2 { }", "for'i^2@0(add@13(index'a@8(name'i@10) num#1@15)){}")
	does(t, "return 1; return 2; x = 3;", "return@0(num#1@7) return@10(num#2@17) set'x@20(num#3@24)")
}

func TestEachDeclaration(t *testing.T) {
	for label, word := range []string{"pub", "sec"} {
		for _, x := range allTypes {
			want := fmt.Sprintf(":%d.%s", label, x.want)
			if want == ":0.0.0" {
				want = "" // a public word's type is its zero value
			}
			does(t, "var "+word+" v: "+x.text+";", "var'v"+want+"@0")
			does(t, "x = 1; var "+word+" v: "+x.text+" ; x = 2;", "set'x@0(num#1@4) var'v"+want+"@7 set'x@"+strconv.Itoa(21+len(x.text))+"(num#2@"+strconv.Itoa(25+len(x.text))+")")
		}
	}
}

func TestBlocksWithinBlocks(t *testing.T) {
	does(t, "if a { if b { } else { } } else { if c { } }", "if@0(name'a@3){if@7(name'b@10){}else{}}else{if@34(name'c@37){}}")
	does(t, "if a { if b { } } else { }", "if@0(name'a@3){if@7(name'b@10){}}else{}")
	does(t, "if a { } if b { } else { } if c { }", "if@0(name'a@3){} if@9(name'b@12){}else{} if@27(name'c@30){}")
	does(t, "for i < 1 max 2 { for j < 3 max 4 { g(); } } h();", "for'i^2@0(num#1@8){for'j^4@18(num#3@26){do@36(call'g@36)}} do@45(call'h@45)")
	does(t, "if a { x = 1; y = 2; z = 3; }", "if@0(name'a@3){set'x@7(num#1@11) set'y@14(num#2@18) set'z@21(num#3@25)}")
	does(t, "if a { for i < 1 max 2 { if b { let x = 1; } else { return 2; } var sec v: mask; } }",
		"if@0(name'a@3){for'i^2@7(num#1@15){if@25(name'b@28){let'x@32(num#1@40)}else{return@52(num#2@59)} var'v:1.1.0@64}}")
}

func TestStatementsOneBehindTheOther(t *testing.T) {
	each := []struct{ text, kind string }{
		{"let x = 1;", "let"}, {"var pub x: u32;", "var"}, {"x = 1;", "set"}, {"x[0] = 1;", "store"}, {"g();", "do"}, {"return 1;", "return"},
		{"if a { }", "if"}, {"if a { } else { }", "if"}, {"for i < n max 9 { }", "for"},
	}
	for _, a := range each {
		for _, b := range each {
			for _, c := range each {
				p, bad := Parse("fn f(){" + a.text + b.text + c.text + "}")
				if bad != (api.Bad{}) || len(p.Funcs) != 1 || len(p.Funcs[0].Body) != 3 {
					t.Fatalf("%s, %s, %s: %+v, %+v", a.text, b.text, c.text, bad, p)
				}
				for k, want := range []string{a.kind, b.kind, c.kind} {
					if got := p.Funcs[0].Body[k]; doings[got.Kind] != want || got.Pos != []int{7, 7 + len(a.text), 7 + len(a.text+b.text)}[k] {
						t.Errorf("%s, %s, %s: %+v", a.text, b.text, c.text, got)
					}
				}
			}
		}
	}
}

func TestStatementsThatAreNone(t *testing.T) {
	for _, x := range []struct {
		s   string
		pos int
	}{
		{"1", 0}, {";", 0}, {"(", 0}, {"{", 0}, {"{ }", 0}, {"[", 0}, {"=", 0}, {"+", 0}, {"-x = 1;", 0}, {"~", 0}, {"!a;", 0}, {"else { }", 0}, {"max", 0}, {"out", 0}, {"pub x: u32;", 0}, {"sec", 0}, {"u32 x;", 0}, {"u8", 0}, {"mask", 0},
		{"mulhi(1, 2);", 0}, {"carry(1, 2);", 0}, {"select(a, b, c);", 0}, {"word(a);", 0}, {"ror(a, 1);", 0}, {"fn", 0},
		{"x;", 1}, {"x", 2}, {"x == 1;", 2}, {"x += 1;", 2}, {"x + 1;", 2}, {"x 1", 2}, {"x y", 2}, {"x:", 1}, {"x < 1", 2}, {"x - 1", 2}, {"x << 1", 2}, {"x, y = 1;", 1}, {"x {", 2}, {"x]", 1}, {"x)", 1}, {"x let", 2}, {"x = 1", 6}, {"x = 1 }", 6},
		{"x =", 4}, {"x = ;", 4}, {"x = = 1;", 4}, {"x = let", 4}, {"x = {", 4}, {"x = 1, 2;", 5}, {"x = y = 1;", 6}, {"x = 1 2;", 6}, {"x = 1 y;", 6}, {"x = 1:", 5}, {"x = 1)", 5}, {"x = 1]", 5}, {"x = 1 {", 6}, {"x = 1; ;", 7}, {"x = u32;", 4}, {"x = fn", 4}, {"x = max", 4}, {"x = pub", 4}, {"x = if a", 4},
		{"x[", 3}, {"x[] = 1;", 2}, {"x[1", 4}, {"x[1) = 1;", 3}, {"x[1, 2] = 1;", 3}, {"x[1];", 4}, {"x[1]", 5}, {"x[1] == 1;", 5}, {"x[1][2] = 3;", 4}, {"x[1](2);", 4}, {"x[1] + 1;", 5}, {"x[1;", 3}, {"x[1 2", 4}, {"x[1] = ;", 7}, {"x[1] = 2", 9}, {"x[1] = 2, ", 8}, {"x[u8", 2},
		{"g(", 3}, {"g(;", 2}, {"g(,", 2}, {"g(1", 4}, {"g(1;", 3}, {"g(1,", 5}, {"g(1,)", 4}, {"g(1,,", 4}, {"g(1 2", 4}, {"g(1]", 3}, {"g()", 4}, {"g() = 1;", 4}, {"g() + 1;", 4}, {"g()();", 3}, {"g()[0] = 1;", 3}, {"g() g();", 4}, {"g(x = 1);", 4}, {"g(pub a);", 2}, {"g({", 2},
		{"let", 4}, {"let 1", 4}, {"let = 1;", 4}, {"let let", 4}, {"let u32 x", 4}, {"let pub x = 1;", 4}, {"let x", 6}, {"let x;", 5}, {"let x: u32 = 1;", 5}, {"let x[1] = 1;", 5}, {"let x(", 5}, {"let x == 1;", 6}, {"let x 1", 6}, {"let x =", 8}, {"let x = ;", 8}, {"let x = 1", 10}, {"let x = 1,", 9}, {"let x = 1 }", 10}, {"let (x) = 1;", 4},
		{"var", 4}, {"var x: u32;", 4}, {"var out pub x", 4}, {"var 1", 4}, {"var ;", 4}, {"var pub", 8}, {"var pub sec", 8}, {"var pub u32", 8}, {"var pub 1", 8}, {"var pub x", 10}, {"var pub x;", 9}, {"var pub x = 1;", 10}, {"var pub x, y", 9}, {"var sec x:", 11}, {"var sec x: ;", 11}, {"var sec x: y", 11}, {"var sec x: u8;", 13}, {"var sec x: mask[1];", 15}, {"var sec x: u32", 15}, {"var sec x: u32 = 1;", 15}, {"var sec x: u32 }", 15}, {"var sec x: u32[n];", 15}, {"var sec x: u32[1][2];", 17}, {"var sec x: pub u32;", 11},
		{"if", 3}, {"if {", 3}, {"if ;", 3}, {"if else", 3}, {"if a", 5}, {"if a;", 4}, {"if a x = 1;", 5}, {"if a)", 4}, {"if (a {", 6}, {"if a < b < c { }", 9}, {"if a = b { }", 5}, {"if a {", 7}, {"if a { };", 8}, {"if a { } else", 14}, {"if a { } else if b { }", 14}, {"if a { } else x", 14}, {"if a { } else ;", 14}, {"if a { } else {", 16}, {"if a { } else { } else { }", 18}, {"if a { 1 }", 7}, {"if a { } else { 1 }", 16}, {"if a let", 5},
		{"for", 4}, {"for 1", 4}, {"for (", 4}, {"for let", 4}, {"for i", 6}, {"for i = ", 6}, {"for i <= n", 6}, {"for i > n", 6}, {"for i << n", 6}, {"for i[", 5}, {"for i < ", 9}, {"for i < max", 8}, {"for i < {", 8}, {"for i < n", 10}, {"for i < n {", 10}, {"for i < n;", 9}, {"for i < n < m < k max 1 { }", 14}, {"for i < n max", 14}, {"for i < n max n { }", 14}, {"for i < n max -1 { }", 14}, {"for i < n max (1) { }", 14}, {"for i < n max { }", 14}, {"for i < n max 1", 16}, {"for i < n max 1 + 1 { }", 16}, {"for i < n max 1;", 15}, {"for i < n max 1 x", 16}, {"for i < n max 1 2", 16}, {"for i < n max 1 max 2 { }", 16}, {"for i < n max 1 {", 18}, {"for i < n max 1 { } else { }", 20},
		{"return", 7}, {"return;", 6}, {"return }", 7}, {"return = 1;", 7}, {"return 1", 9}, {"return 1 }", 9}, {"return 1, 2;", 8}, {"return 1 2;", 9}, {"return return", 7}, {"return x = 1;", 9}, {"return { }", 7},
	} {
		// The text ends there, or goes on.
		refused(t, aheadOfStatements+x.s+" ", api.ErrSyntax, len(aheadOfStatements)+x.pos)
		refused(t, aheadOfStatements+"if y { } else { "+x.s+" ", api.ErrSyntax, len(aheadOfStatements)+16+x.pos)
	}
}

// P12.1: expressions

func TestEachPrimary(t *testing.T) {
	means(t, "0", "num@0")
	means(t, "1", "num#1@0")
	means(t, "4294967295", "num#4294967295@0")
	means(t, "0xff", "num#255@0")
	means(t, " 7 ", "num#7@1")
	means(t, "a", "name'a@0")
	means(t, strings.Repeat("q", 40), "name'"+strings.Repeat("q", 40)+"@0")
	means(t, "a[1]", "index'a@0(num#1@2)")
	means(t, "a[b[c]]", "index'a@0(index'b@2(name'c@4))")
	means(t, "a [ 1 + 2 ]", "index'a@0(add@6(num#1@4 num#2@8))")
	means(t, "a[b == c]", "index'a@0(eq@4(name'b@2 name'c@7))")
	means(t, "a()", "call'a@0")
	means(t, "a(1)", "call'a@0(num#1@2)")
	means(t, "a(b, c[2], d())", "call'a@0(name'b@2 index'c@5(num#2@7) call'd@11)")
	means(t, "a(b < c, d | e)", "call'a@0(lt@4(name'b@2 name'c@6) or@11(name'd@9 name'e@13))")
	means(t, "a(b(c(d())))", "call'a@0(call'b@2(call'c@4(call'd@6)))")
	means(t, "mulhi(a, b)", "high@0(name'a@6 name'b@9)")
	means(t, "carry(a, b)", "carry@0(name'a@6 name'b@9)")
	means(t, "select(a, b, c)", "select@0(name'a@7 name'b@10 name'c@13)")
	means(t, "word(a)", "word@0(name'a@5)")
	means(t, "ror(a, 7)", "ror#7@0(name'a@4)")
	means(t, "ror(a + 1, 4294967295)", "ror#4294967295@0(add@6(name'a@4 num#1@8))")
	means(t, "ror(ror(a, 1), 0x1f)", "ror#31@0(ror#1@4(name'a@8))")
	means(t, "mulhi (1 < 2, select(a == b, c, d))", "high@0(lt@9(num#1@7 num#2@11) select@14(eq@23(name'a@21 name'b@26) name'c@29 name'd@32))")
	means(t, "word(word(a)) + carry(1, 2)", "add@14(word@0(word@5(name'a@10)) carry@16(num#1@22 num#2@25))")
}

// operand tells an operand at a place, be it a number or a name.
func operand(text string, pos int) api.Expr {
	if n, err := strconv.Atoi(text); err == nil {
		return api.Expr{Kind: api.ENum, Pos: pos, Num: n}
	}
	return api.Expr{Kind: api.EName, Pos: pos, Name: text}
}

// levelOf tells how tight a sign between two binds.
func levelOf(sign string) int {
	return slices.IndexFunc(levels, func(l []string) bool { return slices.Contains(l, sign) })
}

// shifts tells whether a sign is followed by a number of bits.
func shifts(sign string) bool { return sign == "<<" || sign == ">>" }

// tree tells what signs between operands make: the last of those that bind the loosest parts them.
func tree(l []api.Expr, between []api.Token) api.Expr {
	if len(between) == 0 {
		return l[0]
	}
	at := 0
	for k, x := range between {
		if levelOf(x.Text) <= levelOf(between[at].Text) {
			at = k
		}
	}
	x := api.Expr{Kind: makes[between[at].Text], Pos: between[at].Pos, Args: []api.Expr{tree(l[:at+1], between[:at])}}
	right := tree(l[at+1:], between[at+1:])
	if shifts(between[at].Text) {
		x.Num = right.Num
	} else {
		x.Args = append(x.Args, right)
	}
	return x
}

// wrongSign tells which of signs between operands may not stand where it is: the second comparison, or behind a number of bits one that binds tighter; -1, if none is.
func wrongSign(between []string) int {
	compared := false
	for k, x := range between {
		if levelOf(x) == 0 && compared || k > 0 && shifts(between[k-1]) && levelOf(x) > levelOf("<<") {
			return k
		}
		compared = compared || levelOf(x) == 0
	}
	return -1
}

// chained fails if names with signs between are not made as those bind.
func chained(t *testing.T, between ...string) {
	t.Helper()
	text, places := "a", []int(nil)
	operands := []api.Expr{operand("a", 0)}
	var found []api.Token
	for k, x := range between {
		next := string(rune('b' + k))
		if shifts(x) {
			next = strconv.Itoa(k + 1)
		}
		found = append(found, api.Token{Text: x, Pos: len(text) + 1})
		places = append(places, len(text)+1)
		operands = append(operands, operand(next, len(text)+2+len(x)))
		text += " " + x + " " + next
	}
	if k := wrongSign(between); k >= 0 {
		meansNot(t, text, api.ErrSyntax, places[k])
		return
	}
	means(t, text, expression(tree(operands, found), 0))
}

// signsBetween are all signs that stand between two.
var signsBetween = slices.Concat(levels...)

func TestSignsBetween(t *testing.T) {
	for _, a := range signsBetween {
		chained(t, a)
		for _, b := range signsBetween {
			chained(t, a, b)
			for _, c := range signsBetween {
				chained(t, a, b, c)
			}
		}
	}
}

func TestSignsBetweenByHand(t *testing.T) {
	means(t, "a == b", "eq@2(name'a@0 name'b@5)")
	means(t, "a != b", "ne@2(name'a@0 name'b@5)")
	means(t, "a < b", "lt@2(name'a@0 name'b@4)")
	means(t, "a <= b", "le@2(name'a@0 name'b@5)")
	means(t, "a > b", "gt@2(name'a@0 name'b@4)")
	means(t, "a >= b", "ge@2(name'a@0 name'b@5)")
	means(t, "a | b", "or@2(name'a@0 name'b@4)")
	means(t, "a ^ b", "xor@2(name'a@0 name'b@4)")
	means(t, "a & b", "and@2(name'a@0 name'b@4)")
	means(t, "a << 3", "shl#3@2(name'a@0)")
	means(t, "a >> 3", "shr#3@2(name'a@0)")
	means(t, "a + b", "add@2(name'a@0 name'b@4)")
	means(t, "a - b", "sub@2(name'a@0 name'b@4)")
	means(t, "a * b", "mul@2(name'a@0 name'b@4)")
	means(t, "a - b - c", "sub@6(sub@2(name'a@0 name'b@4) name'c@8)")
	means(t, "a << 1 >> 4294967295", "shr#4294967295@7(shl#1@2(name'a@0))")
	means(t, "a | b ^ c & d << 1", "or@2(name'a@0 xor@6(name'b@4 and@10(name'c@8 shl#1@14(name'd@12))))")
	means(t, "a + b << 1 & c ^ d | e", "or@19(xor@15(and@11(shl#1@6(add@2(name'a@0 name'b@4)) name'c@13) name'd@17) name'e@21)")
	means(t, "a * b + c * d", "add@6(mul@2(name'a@0 name'b@4) mul@10(name'c@8 name'd@12))")
	means(t, "a|b==c|d", "eq@3(or@1(name'a@0 name'b@2) or@6(name'c@5 name'd@7))")
	means(t, "(a < b) == (c < d)", "eq@8(lt@3(name'a@1 name'b@5) lt@14(name'c@12 name'd@16))")
	means(t, "a < (b < c)", "lt@2(name'a@0 lt@7(name'b@5 name'c@9))")
}

func TestLongChains(t *testing.T) {
	r := rand.New(rand.NewPCG(12, 5))
	for range 5000 {
		var l []string
		for range 3 + r.IntN(10) {
			level := 1 + r.IntN(len(levels)-1)
			if r.IntN(9) == 0 {
				level = 0
			}
			l = append(l, levels[level][r.IntN(len(levels[level]))])
		}
		chained(t, l...)
	}
}

func TestShiftsByANumberAlone(t *testing.T) {
	for _, s := range []string{"<<", ">>"} {
		for _, x := range []string{"b", "(1)", "-1", "~1", "!1", "word(a)", "mulhi(1, 2)", "b[0]", "f()", ";", ")", "<< 1", "max 1", "u8"} {
			meansNot(t, "a "+s+" "+x, api.ErrSyntax, 5)
		}
		meansNot(t, "a "+s+" 1 * 2", api.ErrSyntax, 7)
		meansNot(t, "a "+s+" 1 + 2", api.ErrSyntax, 7)
		meansNot(t, "a "+s+" 1 - 2", api.ErrSyntax, 7)
		meansNot(t, "a "+s+" 1(2)", api.ErrSyntax, 6)
		meansNot(t, "a "+s+" 1[2]", api.ErrSyntax, 6)
		meansNot(t, "a "+s+" 1 b", api.ErrSyntax, 7)
		meansNot(t, "1 + a "+s+" 1 + 2", api.ErrSyntax, 11)
		meansNot(t, "a "+s+" 4294967296", api.ErrLex, 5)
	}
	means(t, "-a << 1", "shl#1@3(neg@0(name'a@1))")
	means(t, "a * b << 32", "shl#32@6(mul@2(name'a@0 name'b@4))")
	means(t, "a + (b << 1)", "add@2(name'a@0 shl#1@7(name'b@5))")
	means(t, "(a << 1) + b", "add@9(shl#1@3(name'a@1) name'b@11)")
}

func TestSignsAhead(t *testing.T) {
	each := []struct{ sign, want string }{{"~", "not"}, {"-", "neg"}, {"!", "flip"}}
	for _, a := range each {
		means(t, a.sign+"x", a.want+"@0(name'x@1)")
		means(t, a.sign+" 5", a.want+"@0(num#5@2)")
		means(t, a.sign+"x[1]", a.want+"@0(index'x@1(num#1@3))")
		means(t, a.sign+"x(1)", a.want+"@0(call'x@1(num#1@3))")
		means(t, a.sign+"(x + y)", a.want+"@0(add@4(name'x@2 name'y@6))")
		means(t, a.sign+"word(x)", a.want+"@0(word@1(name'x@6))")
		for _, b := range each {
			means(t, a.sign+b.sign+"x", a.want+"@0("+b.want+"@1(name'x@2))")
			means(t, a.sign+"("+b.sign+"x)", a.want+"@0("+b.want+"@2(name'x@3))")
			for _, c := range each {
				means(t, a.sign+" "+b.sign+" "+c.sign+" x", a.want+"@0("+b.want+"@2("+c.want+"@4(name'x@6)))")
			}
			for _, s := range signsBetween {
				want := kinds[makes[s]]
				if shifts(s) {
					means(t, a.sign+"x "+s+" 9", want+"#9@3("+a.want+"@0(name'x@1))")
				} else {
					means(t, a.sign+"x "+s+" "+b.sign+"y", fmt.Sprintf("%s@3(%s@0(name'x@1) %s@%d(name'y@%d))", want, a.want, b.want, 4+len(s), 5+len(s)))
				}
			}
		}
		for _, x := range []string{"", ";", ")", "* a", "+ a", "== a", "= a", "let", "u32", "fn", "]", ",", "{"} {
			meansNot(t, a.sign+" "+x, api.ErrSyntax, 2)
		}
	}
	means(t, "a--b", "sub@1(name'a@0 neg@2(name'b@3))")
	means(t, "a - -b - -c", "sub@7(sub@2(name'a@0 neg@4(name'b@5)) neg@9(name'c@10))")
	meansNot(t, "a ~ b", api.ErrSyntax, 2)
	meansNot(t, "a ! b", api.ErrSyntax, 2)
	meansNot(t, "a ~", api.ErrSyntax, 2)
}

func TestParenthesesMakeNothing(t *testing.T) {
	for _, n := range []int{1, 2, 5, 60} {
		open, shut := strings.Repeat("(", n), strings.Repeat(")", n)
		means(t, open+"a"+shut, fmt.Sprintf("name'a@%d", n))
		means(t, open+"7"+shut, fmt.Sprintf("num#7@%d", n))
		means(t, open+"a + b"+shut, fmt.Sprintf("add@%d(name'a@%d name'b@%d)", n+2, n, n+4))
		means(t, open+"a"+shut+" * b", fmt.Sprintf("mul@%d(name'a@%d name'b@%d)", 2*n+2, n, 2*n+4))
	}
	// What is in them is made first, wherever the signs stand.
	for _, s := range signsBetween {
		for _, u := range signsBetween {
			a, b := "b", "c"
			if shifts(s) {
				a = "2"
			}
			if shifts(u) {
				b = "3"
			}
			first := tree([]api.Expr{operand("a", 1), operand(a, 4+len(s))}, []api.Token{{Text: s, Pos: 3}})
			at := 4 + len(s) + 3
			means(t, "(a "+s+" "+a+") "+u+" "+b, expression(tree([]api.Expr{first, operand(b, at+len(u)+1)}, []api.Token{{Text: u, Pos: at}}), 0))
			if shifts(s) {
				meansNot(t, "a "+s+" (b "+u+" "+b+")", api.ErrSyntax, 3+len(s))
				continue
			}
			at = 4 + len(s)
			second := tree([]api.Expr{operand("b", at), operand(b, at+3+len(u))}, []api.Token{{Text: u, Pos: at + 2}})
			means(t, "a "+s+" (b "+u+" "+b+")", expression(tree([]api.Expr{operand("a", 0), second}, []api.Token{{Text: s, Pos: 2}}), 0))
		}
	}
	for s, pos := range map[string]int{"()": 1, "(a": 2, "(a;": 2, "(a, b)": 2, "(a]": 2, "(a b)": 3, "(a = b)": 3, "(,": 1, "((a)": 4, "(a))": 3, "(a)(b)": 3, "(a)[b]": 3, "(a) b": 4, "(u32) a": 1} {
		meansNot(t, s, api.ErrSyntax, pos)
	}
}

func TestHowManyAWordIsCalledWith(t *testing.T) {
	for _, x := range []struct {
		word string
		kind int
		many int
	}{{"mulhi", api.EHigh, 2}, {"carry", api.ECarry, 2}, {"select", api.ESelect, 3}, {"word", api.EWord, 1}} {
		for _, arg := range []string{"a", "1", "a[0]", "f(1, 2)", "(a + b)", "~a", "a < b", "ror(a, 1)", "select(a, b, c)"} {
			for n := range 6 {
				s := x.word + "(" + strings.Join(slices.Repeat([]string{arg}, n), ", ") + ")"
				switch {
				case n < x.many: // at the parenthesis that ends it
					meansNot(t, s, api.ErrSyntax, len(s)-1)
				case n > x.many: // at the comma behind the last one
					meansNot(t, s, api.ErrSyntax, len(x.word)+1+x.many*len(arg)+(x.many-1)*2)
				default:
					if y := value(t, s); y.Kind != x.kind || len(y.Args) != n {
						t.Errorf("%s is made %s", s, expression(y, 0))
					}
				}
			}
		}
	}
	for s, pos := range map[string]int{
		"ror()": 4, "ror(1)": 5, "ror(a)": 5, "ror(a,)": 6, "ror(a, b)": 7, "ror(a, (1))": 7, "ror(a, -1)": 7, "ror(a, 1, 2)": 8, "ror(a, 1,)": 8, "ror(a, 1 + 2)": 9, "ror(a, 1": 8, "ror(, 1)": 4, "ror(1 2)": 6, "ror a": 4, "ror": 3, "ror[1]": 3, "ror(a, 1]": 8,
		"mulhi": 5, "mulhi a": 6, "mulhi[1]": 5, "mulhi;": 5, "mulhi + 1": 6, "mulhi()": 6, "mulhi(,": 6, "mulhi(a b)": 8, "mulhi(a,)": 8, "mulhi(a,,b)": 8, "mulhi(a; b)": 7, "mulhi(a, b": 10, "mulhi(a, b,)": 10, "mulhi(a, b]": 10, "mulhi(a, b)(c)": 11, "mulhi(a, b)[0]": 11, "mulhi{": 5,
		"carry": 5, "carry 1": 6, "carry(1;": 7, "select": 6, "select(a b": 9, "select(a, b c": 12, "select(a, b, c d": 15, "select == 1": 7, "word": 4, "word a": 5, "word[0]": 4, "word(a": 6, "word(a b)": 7, "word()": 5, "word(a)(": 7, "word word(a)": 5, "word = 1": 5,
	} {
		meansNot(t, s, api.ErrSyntax, pos)
	}
}

func TestHowManyAFunctionIsCalledWith(t *testing.T) {
	for _, n := range []int{0, 1, 2, 3, 10, 63, 64, 65, 100, 10000} {
		var args, want []string
		for k := range n {
			args = append(args, "a")
			want = append(want, "name'a@"+strconv.Itoa(2+2*k))
		}
		made := "call'f@0" + field("(", strings.Join(want, " ")) + map[bool]string{true: ")"}[n > 0]
		means(t, "f("+strings.Join(args, ",")+")", made)
		does(t, "f("+strings.Join(args, ",")+");", "do@0("+made+")")
	}
	for s, pos := range map[string]int{"f(": 2, "f(,)": 2, "f(a,)": 4, "f(a,,b)": 4, "f(a b)": 4, "f(a; b)": 3, "f(a]": 3, "f(a}": 3, "f(let": 2, "f(a = 1)": 4, "f()()": 3, "f()[0]": 3, "f() a": 4, "f{": 1, "a[": 2, "a[]": 2, "a[1": 3, "a[1,2]": 3, "a[1)": 3, "a[1][2]": 4, "a[1](2)": 4, "a[1;": 3, "a[1 2]": 4} {
		meansNot(t, s, api.ErrSyntax, pos)
	}
}

// samples are texts that have, together, all that there is.
var samples = []string{
	"",
	"fn f() { }",
	"fn f(): pub u32 { return 1; }",
	"fn f(out sec o: u8[4], pub n: u32, sec m: mask, out pub w: u32[9]): sec mask { let x = 1; }",
	"fn f() { var pub a: u32; var sec b: mask; var pub c: u8[3]; var sec d: u32[4]; }",
	"fn f() { x = 1; x[2] = 3; g(); g(1); g(1, 2, 3); }",
	"fn f() { if a { } else { } if b { x = 1; } if c { } else { y = 2; } for i < n max 9 { x = i; } }",
	"fn f() { x = a == b; x = a != b; x = a < b; x = a <= b; x = a > b; x = a >= b; }",
	"fn f() { x = a | b ^ c & d << 1 >> 2 & e + f - g * h; }",
	"fn f() { x = ~a; x = -a + - b; x = !a; x = ~-!~a[1]; x = ~(a); }",
	"fn f() { x = mulhi(a, b) + carry(c, d) * select(m, n, o) - word(p) ^ ror(q, 4); }",
	"fn f() { x = (a + (b * c)) << 3; return f(g(h(), a[b[1]]), (2)); }",
	"fn f() { if a { for i < n max 9 { if b { } else { x[i] = 1; } } } return 0; } fn main() { }",
}

// P12.1: texts that end, and other tokens than may stand there

func TestTextsThatEndAtEachToken(t *testing.T) {
	for _, s := range samples {
		parsedRight := 0
		for _, x := range append(tokens(s), api.Token{Pos: len(s)}) {
			cut := s[:x.Pos]
			whole := strings.Count(cut, "{") == strings.Count(cut, "}") && (cut == "" || strings.HasSuffix(strings.TrimSpace(cut), "}"))
			for _, end := range []string{"", " ", "\n\n", "// }", " // ; }\n"} {
				if whole {
					right(t, cut+end)
					parsedRight++
				} else {
					refused(t, cut+end, api.ErrSyntax, len(cut+end))
				}
			}
		}
		if parsedRight == 0 {
			t.Errorf("%s is right", s)
		}
	}
}

// told fails if Parse does not tell what the document's words do of tokens that a chart takes, and one behind them.
func told(t *testing.T, c *chart, ahead, token string) {
	t.Helper()
	text := ahead + " " + token
	next := tokens(token)[0]
	switch {
	case !c.takes(next):
		refused(t, text, api.ErrSyntax, len(ahead)+1)
	case c.with(next).whole():
		right(t, text)
	default:
		refused(t, text, api.ErrSyntax, len(text))
	}
}

func TestEachTokenAtEachToken(t *testing.T) {
	for _, s := range samples {
		c, ahead := begun(), ""
		for _, x := range append(pieces(s), "") {
			for _, y := range vocabulary {
				told(t, c, ahead, y)
			}
			if x != "" {
				ahead += " " + x
				c = c.with(tokens(x)[0])
			}
		}
	}
}

// explored goes through all beginnings that go on with so many tokens.
func explored(t *testing.T, c *chart, ahead string, more int) {
	for _, x := range vocabulary {
		told(t, c, ahead, x)
		if next := tokens(x)[0]; more > 0 && c.takes(next) {
			explored(t, c.with(next), ahead+" "+x, more-1)
		}
	}
}

func TestAllThatGoesOn(t *testing.T) {
	for ahead, more := range map[string]int{
		"": 5, "fn f (": 4, "fn f ( pub a :": 4, "fn f ( ) :": 3, "fn f ( ) {": 2, "fn f ( ) { }": 4, "fn f ( ) { var": 4, "fn f ( ) { x = a": 2, "fn f ( ) { x =": 2, "fn f ( ) { x [": 2, "fn f ( ) { x (": 2, "fn f ( ) { if a": 2,
		"fn f ( ) { if a { }": 2, "fn f ( ) { if a { } else": 3, "fn f ( ) { for": 3, "fn f ( ) { for i < n": 2, "fn f ( ) { for i < n max 9": 2, "fn f ( ) { return": 2, "fn f ( ) { let": 3, "fn f ( ) { x = a < b": 2, "fn f ( ) { x = a << 1": 2, "fn f ( ) { x = ror": 3, "fn f ( ) { x = ror ( a ,": 3, "fn f ( ) { x = mulhi ( a": 2, "fn f ( ) { x = select ( a , b": 2, "fn f ( ) { x = ( a": 2,
	} {
		c := begun()
		for _, x := range tokens(ahead) {
			if !c.takes(x) {
				t.Fatalf("%s is no beginning", ahead)
			}
			c = c.with(x)
		}
		explored(t, c, ahead, more)
	}
}

// P12.1: lex's errors

func TestErrorsOfLex(t *testing.T) {
	for _, x := range []struct {
		s   string
		pos int
	}{
		{"#", 0}, {"fn f() { $", 9}, {"x #", 2}, {"fn f() { } #", 11}, {"fn fn 01", 6}, {") ) ) 4294967296", 6}, {"fn f() { x = 1 1; } é", 20}, {"x " + strings.Repeat("a", 41), 2}, {"fn f( /", 6}, {"fn f() { x = a << 0x1F; }", 18},
		{aheadOfValue + strings.Repeat("(", 100) + "#", 113}, {aheadOfValue + strings.Repeat("-", 100) + "1a", 113}, {"fn f(pub a: u8[0]) { /", 21}, {"fn f(pub a: u8[00]) {", 15},
	} {
		refused(t, x.s, api.ErrLex, x.pos)
	}
	for _, s := range []string{"", "x", "fn f() { }", "#", aheadOfValue + strings.Repeat("(", 100)} {
		refused(t, s+strings.Repeat(" ", 65537-len(s)), api.ErrBig, 0)
		refused(t, s+strings.Repeat("#", 65537-len(s)), api.ErrBig, 0)
		refused(t, s+strings.Repeat("(", 65537), api.ErrBig, 0)
	}
	parsed(t, strings.Repeat(" ", 65536), "")
	refused(t, strings.Repeat(" ", 65535)+"x", api.ErrSyntax, 65535)
	refused(t, "fn"+strings.Repeat(" ", 65534), api.ErrSyntax, 65536)
}

// P12.1: nests

// nest is a way to open a nest in an expression, or in a block: at which byte it does so first; below 0, if there are others beside it.
type nest struct {
	open, shut string
	at         int
}

var (
	nestsOfValues = []nest{
		{"(", ")", 0}, {"a[", "]", 1}, {"f(", ")", 1}, {"f(1, ", ")", 1}, {"f(", ", 1)", 1}, {"~", "", 0}, {"-", "", 0}, {"!", "", 0}, {"- ", " ", 0}, {"word(", ")", 4}, {"ror(", ", 1)", 3},
		{"mulhi(", ", 1)", 5}, {"mulhi(1, ", ")", 5}, {"carry(", ", 1)", 5}, {"carry(1, ", ")", 5}, {"select(", ", 1, 1)", 6}, {"select(1, ", ", 1)", 6}, {"select(1, 1, ", ")", 6},
		{"1 + (", ")", -1}, {"1 - a[", "]", -1}, {"1 * -", "", -1}, {"1 & (", ") << 1", -1}, {"a - (", " == b)", -1},
		{"(1) + f(", ")", -1}, {"~1 + ~", "", -1}, {"a[1] | f(a[2]) ^ (", ") & (1)", -1}, {"-a[1] - -", "", -1}, {"~(1) + ~", "", -1}, {"-f(1) + (", ")", -1}, {"-word(1) * word(", ")", -1}, {"-1 - (", " == -1)", -1}, {"-(", ")", -1},
	}
	nestsOfBlocks = []nest{
		{"if a {", "}", 5}, {"if a { } else {", "}", 5}, {"for i < n max 9 {", "}", 16}, {"var pub v: u8[4]; if a < b {", "} return a - b;", 27},
		{"if ~a == ~b {", "}", -1}, {"if (a) { x = (1); g(1); x[1] = 2; } if a {", "}", -1}, {"for i < a[1] max 3 {", "}", -1},
		{"if a { if (b) { } } else { for i < -f(1) max 2 { } } for j < (1) max 2 {", "} if (a) { }", -1}, {"var pub v: u8[4]; let y = -1; if !c {", "} return ~1;", -1},
	}
	nestsAtLast = []nest{{"g(", ");", 1}, {"x[", "] = 1;", 1}, {"return (", ");", 7}, {"let y = -", ";", 8}, {"x[(1)] = (", ");", -1}, {"if (", ") { }", -1}, {"for i < (", ") max 2 { }", -1}}
)

// tooDeep tells at which byte of a text, that is right but for this, a nest is opened within 64 others; -1, if none is.
func tooDeep(s string) int {
	n := &nesting{}
	for _, x := range tokens(s) {
		if !n.with(x) {
			return x.Pos
		}
	}
	return -1
}

// nested fails if nests, one in the other in a function's block, are not what they should be: right, or too deep at the first one within 64 others.
func nested(t *testing.T, l []nest, within string) {
	t.Helper()
	open, shut, place, plain := "fn f(pub a: u8[4]) { ", "}", -1, true
	for k, x := range l {
		if k == 63 { // the function's block is a nest too
			place = len(open) + x.at
		}
		plain = plain && x.at >= 0
		open += x.open
		shut = x.shut + shut
	}
	deep := tooDeep(open + within + shut)
	if plain && deep != place {
		t.Fatalf("%s: the test itself is wrong: %d and %d", short(open), deep, place)
	}
	if deep >= 0 {
		refused(t, open+within+shut, api.ErrDeep, deep)
	} else {
		right(t, open+within+shut)
	}
	if deep >= 0 && deep < len(open) {
		refused(t, open, api.ErrDeep, deep)
	} else {
		refused(t, open, api.ErrSyntax, len(open))
	}
}

func TestNestsOfEachKind(t *testing.T) {
	value := nest{"x = ", ";", 0}
	for _, n := range []int{1, 2, 3, 61, 62, 63, 64, 65, 66, 100, 500} {
		for _, x := range nestsOfValues {
			l := slices.Repeat([]nest{x}, n)
			nestedIn(t, l, value)
		}
		for _, x := range nestsOfBlocks {
			nested(t, slices.Repeat([]nest{x}, n), "")
			for _, y := range nestsAtLast {
				nested(t, append(slices.Repeat([]nest{x}, n), y), "1")
			}
		}
	}
}

// nestedIn fails if nests of an expression are not what they should be in a statement.
func nestedIn(t *testing.T, l []nest, s nest) {
	t.Helper()
	l = slices.Clone(l)
	l[0].open, l[0].shut = s.open+l[0].open, l[0].shut+s.shut
	if l[0].at >= 0 {
		l[0].at += len(s.open)
	}
	nested(t, l, "1")
}

func TestNestsOfKindsMixed(t *testing.T) {
	r := rand.New(rand.NewPCG(12, 6))
	some := func(from []nest, n int) []nest {
		var l []nest
		for range n {
			l = append(l, from[r.IntN(len(from))])
		}
		return l
	}
	for range 5000 {
		n := 60 + r.IntN(8)
		blocks := r.IntN(n)
		l := some(nestsOfBlocks, blocks)
		if last := r.IntN(3); last == 0 {
			l = append(l, some(nestsAtLast, 1)...)
		} else {
			first := some(nestsOfValues, 1)[0]
			if first.open, first.shut = "x = "+first.open, first.shut+";"; first.at >= 0 {
				first.at += 4
			}
			l = append(l, first)
		}
		nested(t, append(l, some(nestsOfValues, n-len(l))...), "1")
	}
}

// in tells a text in which so many blocks lie in one another, and how many bytes are ahead of what is in them.
func in(blocks int, s string) (string, int) {
	open := "fn f() {" + strings.Repeat("if a {", blocks-1)
	return open + s + strings.Repeat("}", blocks), len(open)
}

func TestWhatMayBeWithin64Nests(t *testing.T) {
	for _, s := range []string{"", "x = 1;", "let x = 1;", "x = a - b;", "x = a * b + c - d << 3 >> 4 & e ^ f | g;", "x = a < b;", "return a >= 1;", "var pub v: u32;", "var sec v: u8[4];", "var pub v: u32[16384]; x = 1;"} {
		for _, n := range []int{1, 62, 63, 64} {
			text, _ := in(n, s)
			right(t, text)
		}
	}
	for s, pos := range map[string]int{
		"x = (1);": 4, "x = -1;": 4, "x = ~1;": 4, "x = !1;": 4, "x = a[1];": 5, "x = f();": 5, "x = mulhi(1, 2);": 9, "x = carry(1, 2);": 9, "x = select(1, 2, 3);": 10, "x = word(1);": 8, "x = ror(1, 2);": 7, "g();": 1, "g(1);": 1, "x[1] = 1;": 1, "if a { }": 5, "for i < n max 3 { }": 16, "if 1 < 2 { } else { }": 9,
		"x = a - -b;": 8, "x = a - (b);": 8, "let y = 1; g();": 12, "var pub v: u8[4]; v[0] = 1;": 19, "return a - b - -c;": 15, "x = a << 1 & (b);": 13, "x = a == !b;": 9,
	} {
		text, _ := in(63, s)
		right(t, text)
		text, ahead := in(64, s)
		refused(t, text, api.ErrDeep, ahead+pos)
	}
	for s, pos := range map[string]int{"x = --1;": 5, "x = -(1);": 5, "x = ((1));": 5, "x = -a[1];": 6, "x = ~f(1);": 6, "x = f(a[1]);": 7, "x = !word(1);": 9, "x[-1] = 2;": 2, "x[1] = 2; g(a[1]);": 13, "if a { x = (1); }": 11, "if a { } else { g(); }": 17, "x = ~a + ~-b;": 10, "x = -(1) - -(1);": 5, "for i < -f(1) max 2 { }": 10} {
		text, _ := in(62, s)
		right(t, text)
		text, ahead := in(63, s)
		refused(t, text, api.ErrDeep, ahead+pos)
	}
}

func TestWhatOpensNoNest(t *testing.T) {
	for _, n := range []int{1, 63, 64, 65, 100, 600} {
		// One behind the other they do not lie in one another.
		for _, x := range nestsOfValues {
			each := slices.Repeat([]string{x.open + "1" + x.shut}, n)
			right(t, "fn f() { g("+strings.Join(each, ", ")+"); }")
			right(t, "fn f() { x = ("+strings.Join(each, ") ^ (")+"); }")
		}
		for _, x := range slices.Concat(nestsOfBlocks, nestsAtLast) {
			within := map[bool]string{true: "", false: "1"}[strings.HasSuffix(x.open, "{")]
			right(t, "fn f() { "+strings.Repeat(x.open+within+x.shut+" ", n)+" }")
		}
		right(t, strings.Repeat("fn f(pub a: u8[1], out sec b: u32[2]) { x = (1); }", n))
		right(t, "fn f() { x = "+strings.Repeat("1 - ", n)+"1; }")
		right(t, "fn f() { x = "+strings.Repeat("-1 - ", n)+"1; }")
		right(t, "fn f() { x = "+strings.Repeat("~a[1] + ", n)+"1; }")
		right(t, "fn f() { x = "+strings.Repeat("!(1) * ", n)+"1; }")
		right(t, "fn f() { x = 1"+strings.Repeat(" << 1", n)+"; }")
		right(t, "fn f("+strings.Repeat("pub a: u8[1], ", n)+"pub a: u32) { }")
		right(t, "fn f() { "+strings.Repeat("var pub a: u8[1];", n)+" }")
	}
	// What is behind parameters is not within their parentheses, nor what is behind a sign ahead within it.
	deepest := strings.Repeat("(", 63) + "1" + strings.Repeat(")", 63)
	right(t, "fn f(pub a: u8[1]) { x = "+deepest+" + "+deepest+" * "+deepest+"; }")
	right(t, "fn f() { x = -1 + "+deepest+"; }")
	right(t, "fn f() { x = ~a[1] - "+deepest+"; }")
	right(t, "fn f() { x = -"+deepest[1:len(deepest)-1]+" - "+deepest+"; }")
	right(t, "fn f() { x = --f(1) * "+deepest+"; y = "+deepest+"; } fn g() { x = "+deepest+"; }")
	refused(t, "fn f() { x = -1 + ("+deepest+"); }", api.ErrDeep, 18+63)
	refused(t, "fn f() { x = -"+deepest+"; }", api.ErrDeep, 14+62)
}

func TestWhichErrorIsTold(t *testing.T) {
	sixty := strings.Repeat("(", 63)
	for _, x := range []struct {
		s   string
		e   api.Errno
		pos int
	}{
		{sixty + ";", api.ErrSyntax, 63}, {sixty + "(", api.ErrDeep, 63}, {sixty + "(;", api.ErrDeep, 63}, {sixty + "1;", api.ErrSyntax, 64}, {sixty + "-", api.ErrDeep, 63}, {sixty + "~;", api.ErrDeep, 63},
		{"= " + sixty + "((", api.ErrSyntax, 0}, {"1 1 " + sixty + "((", api.ErrSyntax, 2}, {sixty + "a b((", api.ErrSyntax, 65}, {sixty + "a(;", api.ErrDeep, 64}, {sixty + "a[;", api.ErrDeep, 64}, {sixty + "1(", api.ErrSyntax, 64}, {sixty + "1[", api.ErrSyntax, 64}, {sixty + "1{", api.ErrSyntax, 64},
		{sixty + "1~", api.ErrSyntax, 64}, {sixty + "1!", api.ErrSyntax, 64}, {sixty + "1 - -1", api.ErrDeep, 67}, {sixty + "mulhi(", api.ErrDeep, 68}, {sixty + "mulhi[", api.ErrSyntax, 68}, {sixty + "mulhi;", api.ErrSyntax, 68}, {sixty + "word word(", api.ErrSyntax, 68}, {sixty + "ror 1(", api.ErrSyntax, 67}, {sixty + "select", api.ErrSyntax, 69},
		{sixty + "[", api.ErrSyntax, 63}, {sixty + "{", api.ErrSyntax, 63}, {sixty + "a(b[c(", api.ErrDeep, 64}, {sixty + "1 + 2 * * (", api.ErrSyntax, 71}, {sixty + "a < b < (", api.ErrSyntax, 69}, {sixty + "a << (", api.ErrSyntax, 68},
	} {
		refused(t, aheadOfValue+x.s, x.e, len(aheadOfValue)+x.pos)
	}
	for s, want := range map[string]api.Bad{
		"if a {": {Err: api.ErrDeep, Pos: 5}, "if a (": {Err: api.ErrDeep, Pos: 5}, "if a a {": {Err: api.ErrSyntax, Pos: 5}, "if {": {Err: api.ErrSyntax, Pos: 3}, "if a": {Err: api.ErrSyntax, Pos: 4}, "if a;": {Err: api.ErrSyntax, Pos: 4}, "for i < n {": {Err: api.ErrSyntax, Pos: 10}, "for i < n max 1 {": {Err: api.ErrDeep, Pos: 16}, "for i < n max {": {Err: api.ErrSyntax, Pos: 14},
		"x(": {Err: api.ErrDeep, Pos: 1}, "x[": {Err: api.ErrDeep, Pos: 1}, "x{": {Err: api.ErrSyntax, Pos: 1}, "x = (": {Err: api.ErrDeep, Pos: 4}, "x == (": {Err: api.ErrSyntax, Pos: 2}, "(": {Err: api.ErrSyntax, Pos: 0}, "{": {Err: api.ErrSyntax, Pos: 0}, "-": {Err: api.ErrSyntax, Pos: 0}, "[": {Err: api.ErrSyntax, Pos: 0}, "var pub x: u8[0": {Err: api.ErrSyntax, Pos: 14}, "var pub x[": {Err: api.ErrSyntax, Pos: 9}, "let x(": {Err: api.ErrSyntax, Pos: 5}, "return -": {Err: api.ErrDeep, Pos: 7}, "else {": {Err: api.ErrSyntax, Pos: 0}, "word(": {Err: api.ErrSyntax, Pos: 0},
	} {
		_, ahead := in(64, "")
		text, _ := in(64, "")
		refused(t, text[:ahead]+s, want.Err, ahead+want.Pos)
	}
	// The first one of several of a kind.
	refused(t, "fn f() { x = = = ; }", api.ErrSyntax, 13)
	refused(t, "fn f() { x = "+strings.Repeat("(", 64)+"); } fn g() { x = "+strings.Repeat("-", 64), api.ErrDeep, 13+63)
	refused(t, "fn f() { x = = 1; } fn g() { x = "+strings.Repeat("-", 64), api.ErrSyntax, 13)
	refused(t, "fn f(u32) { } x", api.ErrSyntax, 5)
}

func TestNoProgramBesideAnError(t *testing.T) {
	for _, s := range []string{"fn f() { } x", "fn f() { } fn g() { x = 1; } fn", "fn f() { } #", "fn f() { } fn g() { x = " + strings.Repeat("(", 64), "fn f() { x = 1; ", "fn f(pub a: u32,", strings.Repeat("fn f() { }", 100) + "}", strings.Repeat(" ", 65537)} {
		if p, bad := Parse(s); bad == (api.Bad{}) || p.Funcs != nil {
			t.Errorf("Parse(%s) = %d functions, %+v, want an error and no program", short(s), len(p.Funcs), bad)
		}
	}
}

// P12.2

// joined fails if a text behind another one, with a line's end between, does not have the functions of both.
func joined(t *testing.T, a, b string) {
	t.Helper()
	further := len(a) + 1
	first, bad := Parse(a)
	if bad != (api.Bad{}) {
		t.Errorf("Parse(%s) tells %+v", short(a), bad)
		return
	}
	second, bad := Parse(b)
	if bad != (api.Bad{}) {
		refused(t, a+"\n"+b, bad.Err, bad.Pos+further)
		return
	}
	want := strings.TrimSpace(functions(first, 0) + " " + functions(second, -further))
	parsed(t, a+"\n"+b, want)
}

func TestJoined(t *testing.T) {
	texts := append(slices.Clone(samples), "// a", "//", " \n", "fn f() {} // b", "fn f() {} fn g() {} fn h() {}")
	for _, a := range texts {
		for _, b := range append(slices.Clone(texts), "x", "fn", "fn f() {", "#", "fn f() { } }", aheadOfValue+strings.Repeat("(", 64), "fn f() { x = = 1; }") {
			joined(t, a, b)
		}
	}
}

func TestJoinedOfChance(t *testing.T) {
	r := rand.New(rand.NewPCG(12, 2))
	for range 3000 {
		a, _ := chance(r, r.IntN(60))
		b, _ := chance(r, r.IntN(60))
		joined(t, a, b)
		joined(t, a, broken(r, pieces(b)))
	}
}

// P12.3

// completed tells a right text that begins with tokens that a chart takes: what ends most soon comes first.
func completed(c *chart, ahead string) string {
	for !c.whole() {
		for _, x := range []string{"}", ")", "]", ";", "1", "a", "=", "{", ":", "pub", "u32", "(", ",", "max", "<", "["} {
			if next := tokens(x)[0]; c.takes(next) {
				c, ahead = c.with(next), ahead+" "+x
				break
			}
		}
	}
	return ahead
}

// neverLate fails if what is ahead of the error of a text, all of whose tokens are some, does not begin a right text, or if other tokens behind it change the error.
func neverLate(t *testing.T, r *rand.Rand, s string) {
	t.Helper()
	_, bad := Parse(s)
	c := begun()
	for _, x := range tokens(s[:bad.Pos]) {
		if !c.takes(x) {
			t.Errorf("Parse(%s) tells %+v, but there is no way on at %d", short(s), bad, x.Pos)
			return
		}
		c = c.with(x)
	}
	if s := completed(c, s[:bad.Pos]); judged(s) == (api.Bad{}) {
		right(t, s)
	} else if judged(s).Err != api.ErrDeep {
		t.Errorf("%s: the test's own way on is %+v", short(s), judged(s))
	}
	if bad.Pos == len(s) {
		return
	}
	first := pieceOf(tokens(s[bad.Pos:])[0])
	for range 5 {
		text := s[:bad.Pos] + first
		for range r.IntN(6) {
			text += parts[r.IntN(len(parts))] + vocabulary[r.IntN(len(vocabulary))]
		}
		refused(t, text, bad.Err, bad.Pos)
	}
}

func TestCut(t *testing.T) {
	r := rand.New(rand.NewPCG(12, 3))
	tried := map[api.Errno]int{}
	for range 6000 {
		s, _ := chance(r, r.IntN(80))
		l := pieces(s)
		s = broken(r, l)
		if r.IntN(20) == 0 {
			s = strings.Join(l, " ") + "\n" + aheadOfValue + strings.Repeat([]string{"(", "-", "a[", "word("}[r.IntN(4)], 62+r.IntN(5)) + "1 ;"
		}
		_, bad := Parse(s)
		tried[bad.Err]++
		if bad.Err != api.OK {
			neverLate(t, r, s)
		}
	}
	if tried[api.ErrSyntax] < 2000 || tried[api.ErrDeep] < 50 {
		t.Errorf("%v: too few of one kind", tried)
	}
}

func TestWhatIsAheadBeginsARightText(t *testing.T) {
	for _, s := range samples {
		l, c, ahead := pieces(s), begun(), ""
		for _, x := range append(l, "") {
			right(t, completed(c, ahead))
			if x != "" {
				c, ahead = c.with(tokens(x)[0]), ahead+" "+x
			}
		}
	}
}

// All together

func TestProgramsOfChance(t *testing.T) {
	r := rand.New(rand.NewPCG(12, 1))
	deepest := 0
	for range 20000 {
		s, want := chance(r, r.IntN(150))
		p, bad := Parse(s)
		if bad != (api.Bad{}) || fmt.Sprintf("%+v", p) != fmt.Sprintf("%+v", want) {
			t.Fatalf("Parse(%q) = %+v\n%+v, want\n%+v", s, bad, p, want)
		}
		n := &nesting{}
		for _, x := range tokens(s) {
			n.with(x)
			deepest = max(deepest, n.nests())
		}
	}
	if deepest != 64 {
		t.Errorf("the deepest nest lies within %d others", deepest-1)
	}
}

func TestErrorsOfChance(t *testing.T) {
	r := rand.New(rand.NewPCG(12, 4))
	told := map[api.Errno]int{}
	for range 20000 {
		s, _ := chance(r, r.IntN(60))
		s = broken(r, pieces(s))
		bad := judged(s)
		told[bad.Err]++
		if bad == (api.Bad{}) {
			right(t, s)
		} else {
			refused(t, s, bad.Err, bad.Pos)
		}
	}
	if told[api.OK] < 500 || told[api.ErrSyntax] < 10000 {
		t.Errorf("%v: too few of one kind", told)
	}
}

func TestTokensOfChance(t *testing.T) {
	r := rand.New(rand.NewPCG(12, 7))
	few := []string{"(", ")", "[", "]", "-", "~", "a", "1", ",", "+", "{", "}", ";", "word", "if", "<", "<<", "x = ", "mulhi"}
	for range 50000 {
		s := aheadOfValue
		for range r.IntN(12) {
			s += few[r.IntN(len(few))] + " "
		}
		if bad := judged(s); bad != (api.Bad{}) {
			refused(t, s, bad.Err, bad.Pos)
		}
	}
}

func TestGreatestTexts(t *testing.T) {
	for _, x := range []struct {
		ahead, each, behind string
		count               func(api.Func) int
	}{
		{"fn f(){x=", "1+", "1;}", func(f api.Func) int { return depth(f.Body[0].Args[0]) }},
		{"fn f(){x=1", "<<1", ";}", func(f api.Func) int { return depth(f.Body[0].Args[0]) }},
		{"fn f(){x=", "-a*", "1;}", func(f api.Func) int { return depth(f.Body[0].Args[0]) }},
		{"fn f(){", "x=1;", "}", func(f api.Func) int { return len(f.Body) }},
		{"fn f(){", "if a{}", "}", func(f api.Func) int { return len(f.Body) }},
		{"fn f(){g(", "1,", "1);}", func(f api.Func) int { return len(f.Body[0].Args[0].Args) - 1 }},
		{"fn f(", "pub a:u32,", "pub a:u32){}", func(f api.Func) int { return len(f.Params) - 1 }},
		{"fn f(){if a{", "x[1]=(2);", "}}", func(f api.Func) int { return len(f.Body[0].Body) }},
	} {
		n := (65536 - len(x.ahead+x.behind)) / len(x.each)
		s := x.ahead + strings.Repeat(x.each, n) + x.behind
		s += strings.Repeat(" ", 65536-len(s))
		p, bad := Parse(s)
		if bad != (api.Bad{}) || len(p.Funcs) != 1 || x.count(p.Funcs[0]) != n {
			t.Errorf("Parse(%s) tells %+v", short(s), bad)
		}
		refused(t, s+" ", api.ErrBig, 0)
		refused(t, strings.TrimRight(s, " ")[:len(strings.TrimRight(s, " "))-1], api.ErrSyntax, len(strings.TrimRight(s, " "))-1)
	}
	if p, bad := Parse(strings.Repeat("fn f(){}", 8192)); bad != (api.Bad{}) || len(p.Funcs) != 8192 || p.Funcs[8191].Pos != 65531 {
		t.Errorf("%d functions, %+v", len(p.Funcs), bad)
	}
	for _, x := range []string{"(", "-", "fn", "fn f(", "{", "a ", "1 ", "x=", "}"} {
		refused(t, aheadOfValue+strings.Repeat(x, 60000/len(x)), judged(aheadOfValue+strings.Repeat(x, 70)).Err, judged(aheadOfValue+strings.Repeat(x, 70)).Pos)
	}
}

// depth tells how many signs an expression has at its left, one within the other.
func depth(x api.Expr) int {
	n := 0
	for len(x.Args) > 0 && x.Kind != api.ENeg {
		x = x.Args[0]
		n++
	}
	return n
}

// What holds in every layer

// lists tells where the lists and the texts of a program lie, and how long they are, in bytes.
func lists(p api.Program) [][2]uintptr {
	var out [][2]uintptr
	text := func(s string) {
		out = append(out, [2]uintptr{uintptr(unsafe.Pointer(unsafe.StringData(s))), uintptr(len(s))})
	}
	var exprs func([]api.Expr)
	exprs = func(l []api.Expr) {
		out = append(out, [2]uintptr{uintptr(unsafe.Pointer(unsafe.SliceData(l))), uintptr(cap(l)) * unsafe.Sizeof(api.Expr{})})
		for _, x := range l {
			text(x.Name)
			exprs(x.Args)
		}
	}
	var stmts func([]api.Stmt)
	stmts = func(l []api.Stmt) {
		out = append(out, [2]uintptr{uintptr(unsafe.Pointer(unsafe.SliceData(l))), uintptr(cap(l)) * unsafe.Sizeof(api.Stmt{})})
		for _, x := range l {
			text(x.Name)
			exprs(x.Args)
			stmts(x.Body)
			stmts(x.Else)
		}
	}
	out = append(out, [2]uintptr{uintptr(unsafe.Pointer(unsafe.SliceData(p.Funcs))), uintptr(cap(p.Funcs)) * unsafe.Sizeof(api.Func{})})
	for _, f := range p.Funcs {
		text(f.Name)
		out = append(out, [2]uintptr{uintptr(unsafe.Pointer(unsafe.SliceData(f.Params))), uintptr(cap(f.Params)) * unsafe.Sizeof(api.Param{})})
		for _, x := range f.Params {
			text(x.Name)
		}
		stmts(f.Body)
	}
	return out
}

func TestAnswersAreNewMemory(t *testing.T) {
	r := rand.New(rand.NewPCG(12, 8))
	texts := slices.Clone(samples)
	for range 200 {
		s, _ := chance(r, 100)
		texts = append(texts, s)
	}
	for _, s := range texts {
		s = strings.Clone(s)
		first, _ := Parse(s)
		second, _ := Parse(s)
		all := append(lists(first), lists(second)...)
		all = append(all, [2]uintptr{uintptr(unsafe.Pointer(unsafe.StringData(s))), uintptr(len(s))})
		all = slices.DeleteFunc(all, func(x [2]uintptr) bool { return x[1] == 0 })
		slices.SortFunc(all, func(x, y [2]uintptr) int { return int(x[0]) - int(y[0]) })
		for k := 1; k < len(all); k++ {
			if all[k-1][0]+all[k-1][1] > all[k][0] {
				t.Fatalf("of %s two parts share memory", short(s))
			}
		}
	}
}

func TestNothingIsKept(t *testing.T) {
	const s = "fn f(pub a: u8[4]) { x = a[1] + 2; }"
	first, _ := Parse(s)
	want := functions(first, 0)
	for _, x := range append(slices.Clone(samples), "x", "#", aheadOfValue+strings.Repeat("(", 64), strings.Repeat(" ", 65537), "fn f() {") {
		Parse(x)
		parsed(t, s, want)
	}
	first.Funcs[0].Body[0].Args[0].Args[0] = api.Expr{}
	first.Funcs[0].Params[0] = api.Param{}
	parsed(t, s, want)
}
