package prose

import (
	"fmt"
	"math"
	"math/rand/v2"
	"reflect"
	"slices"
	"strconv"
	"strings"
	"sync"
	"testing"
	"unsafe"

	"hauberk/api"
	"hauberk/syntax"
)

// Short ways of writing expressions, statements and programs.

func num(n int) api.Expr                  { return api.Expr{Kind: api.ENum, Num: n} }
func named(s string) api.Expr             { return api.Expr{Kind: api.EName, Name: s} }
func of(kind int, l ...api.Expr) api.Expr { return api.Expr{Kind: kind, Args: l} }

// bits tells an expression with a number of bits.
func bits(kind int, x api.Expr, n int) api.Expr {
	return api.Expr{Kind: kind, Args: []api.Expr{x}, Num: n}
}

func index(s string, x api.Expr) api.Expr {
	return api.Expr{Kind: api.EIndex, Name: s, Args: []api.Expr{x}}
}

func call(s string, l ...api.Expr) api.Expr { return api.Expr{Kind: api.ECall, Name: s, Args: l} }

func set(s string, x api.Expr) api.Stmt {
	return api.Stmt{Kind: api.SSet, Name: s, Args: []api.Expr{x}}
}

func let(s string, x api.Expr) api.Stmt {
	return api.Stmt{Kind: api.SLet, Name: s, Args: []api.Expr{x}}
}

func store(s string, x, y api.Expr) api.Stmt {
	return api.Stmt{Kind: api.SStore, Name: s, Args: []api.Expr{x, y}}
}

func declare(s string, t api.Type) api.Stmt { return api.Stmt{Kind: api.SVar, Name: s, Type: t} }

func do(x api.Expr) api.Stmt { return api.Stmt{Kind: api.SCall, Args: []api.Expr{x}} }

func give(x api.Expr) api.Stmt { return api.Stmt{Kind: api.SReturn, Args: []api.Expr{x}} }

func when(x api.Expr, body ...api.Stmt) api.Stmt {
	return api.Stmt{Kind: api.SIf, Args: []api.Expr{x}, Body: body}
}

func either(x api.Expr, body, other []api.Stmt) api.Stmt {
	return api.Stmt{Kind: api.SIf, Args: []api.Expr{x}, Body: body, Has: true, Else: other}
}

func loop(s string, x api.Expr, most int, body ...api.Stmt) api.Stmt {
	return api.Stmt{Kind: api.SFor, Name: s, Args: []api.Expr{x}, Most: most, Body: body}
}

// does tells a program of one function that does statements.
func does(l ...api.Stmt) api.Program {
	return api.Program{Funcs: []api.Func{{Name: "f", Body: l}}}
}

// Names that are short.
var a, b, c = named("a"), named("b"), named("c")

// short tells a text that can be told.
func short(s string) string {
	if len(s) > 300 {
		return fmt.Sprintf("%q.. (%d bytes)", s[:300], len(s))
	}
	return strconv.Quote(s)
}

// reads fails if an expression is not written so.
func reads(t *testing.T, x api.Expr, want string) {
	t.Helper()
	if s, e := Expr(x); s != want || e != api.OK {
		t.Errorf("Expr(%s) = %s, %v, want %s", short(fmt.Sprint(x)), short(s), e, short(want))
	}
}

// prints fails if a program is not written so.
func prints(t *testing.T, p api.Program, want string) {
	t.Helper()
	if s, e := Program(p); s != want || e != api.OK {
		t.Errorf("Program(%s) = %s, %v, want %s", short(fmt.Sprint(p)), short(s), e, short(want))
	}
}

// printsBody fails if statements are not written as those lines.
func printsBody(t *testing.T, want string, l ...api.Stmt) {
	t.Helper()
	prints(t, does(l...), "fn f() {\n"+want+"}\n")
}

// notExpr fails if an expression does not have that error, or a text beside it.
func notExpr(t *testing.T, x api.Expr, e api.Errno) {
	t.Helper()
	if s, got := Expr(x); s != "" || got != e {
		t.Errorf("Expr(%s) = %s, %v, want %v", short(fmt.Sprintf("%+v", x)), short(s), got, e)
	}
}

// notProgram fails if a program does not have that error, or a text beside it.
func notProgram(t *testing.T, p api.Program, e api.Errno) {
	t.Helper()
	if s, got := Program(p); s != "" || got != e {
		t.Errorf("Program(%s) = %s, %v, want %v", short(fmt.Sprintf("%+v", p)), short(s), got, e)
	}
}

// The chapter's example, and those of the whole.

func TestExample(t *testing.T) {
	printsBody(t, " x = 1 + 2 * y;\n", set("x", of(api.EAdd, num(1), of(api.EMul, num(2), named("y")))))
	p, bad := syntax.Parse("fn f(){x=(1+(2*y));}")
	if bad != (api.Bad{}) {
		t.Fatal(bad)
	}
	prints(t, p, "fn f() {\n x = 1 + 2 * y;\n}\n")
}

func TestWholePrograms(t *testing.T) {
	for from, want := range map[string]string{
		"fn main(sec a:u32,out sec o:u32[1]){o[0]=a+1;}": "fn main(sec a: u32, out sec o: u32[1]) {\n o[0] = a + 1;\n}\n",
		"fn main(pub n:u32,out pub o:u8[1]){o[n]=1;}":    "fn main(pub n: u32, out pub o: u8[1]) {\n o[n] = 1;\n}\n",
		"fn f(sec k:u32,sec a:u32):sec u32{let m=k==0;return select(m,a,(a<<8)|(a>>24));}fn main(sec k:u32,out sec o:u32[2]){for i<2 max 2{o[i]=f(k,i);}}": `fn f(sec k: u32, sec a: u32): sec u32 {
 let m = k == 0;
 return select(m, a, a << 8 | a >> 24);
}
fn main(sec k: u32, out sec o: u32[2]) {
 for i < 2 max 2 {
  o[i] = f(k, i);
 }
}
`,
	} {
		p, bad := syntax.Parse(from)
		if bad != (api.Bad{}) {
			t.Fatal(from, bad)
		}
		prints(t, p, want)
	}
}

// P13.1: the text of expressions

func TestEachExpression(t *testing.T) {
	for _, x := range []struct {
		x    api.Expr
		want string
	}{
		{num(7), "7"}, {a, "a"}, {index("v", a), "v[a]"}, {index("v", num(0)), "v[0]"}, {call("g"), "g()"}, {call("g", a), "g(a)"}, {call("g", a, b), "g(a, b)"}, {call("g", a, num(2), b, c), "g(a, 2, b, c)"},
		{of(api.ENot, a), "~a"}, {of(api.ENeg, a), "-a"}, {of(api.EFlip, a), "!a"}, {of(api.ENeg, num(1)), "-1"},
		{of(api.EAdd, a, b), "a + b"}, {of(api.ESub, a, b), "a - b"}, {of(api.EMul, a, b), "a * b"}, {of(api.EAnd, a, b), "a & b"}, {of(api.EOr, a, b), "a | b"}, {of(api.EXor, a, b), "a ^ b"},
		{bits(api.EShl, a, 3), "a << 3"}, {bits(api.EShr, a, 31), "a >> 31"}, {bits(api.ERor, a, 8), "ror(a, 8)"},
		{of(api.EEq, a, b), "a == b"}, {of(api.ENe, a, b), "a != b"}, {of(api.ELt, a, b), "a < b"}, {of(api.ELe, a, b), "a <= b"}, {of(api.EGt, a, b), "a > b"}, {of(api.EGe, a, b), "a >= b"},
		{of(api.EHigh, a, b), "mulhi(a, b)"}, {of(api.ECarry, a, b), "carry(a, b)"}, {of(api.ESelect, a, b, c), "select(a, b, c)"}, {of(api.EWord, a), "word(a)"},
	} {
		reads(t, x.x, x.want)
	}
}

func TestNumbers(t *testing.T) {
	for _, x := range []struct {
		n    int
		want string
	}{{0, "0"}, {1, "1"}, {9, "9"}, {10, "10"}, {99, "99"}, {100, "100"}, {255, "255"}, {65536, "65536"}, {1<<31 - 1, "2147483647"}, {1 << 31, "2147483648"}, {4294967294, "4294967294"}, {1<<32 - 1, "4294967295"}} {
		reads(t, num(x.n), x.want)
		reads(t, bits(api.EShl, a, x.n), "a << "+x.want)
		reads(t, bits(api.EShr, a, x.n), "a >> "+x.want)
		reads(t, bits(api.ERor, a, x.n), "ror(a, "+x.want+")")
		printsBody(t, " for i < n max "+x.want+" {\n }\n", loop("i", named("n"), x.n))
		if x.n > 0 {
			printsBody(t, " var pub x: u8["+x.want+"];\n", declare("x", api.Type{Elem: api.TU8, Len: x.n}))
			printsBody(t, " var sec x: u32["+x.want+"];\n", declare("x", api.Type{Label: api.Sec, Len: x.n}))
		}
	}
}

func TestSignsAhead(t *testing.T) {
	for kind, sign := range map[int]string{api.ENot: "~", api.ENeg: "-", api.EFlip: "!"} {
		for other, second := range map[int]string{api.ENot: "~", api.ENeg: "-", api.EFlip: "!"} {
			reads(t, of(kind, of(other, a)), sign+second+"a")
			reads(t, of(kind, of(other, of(kind, num(0)))), sign+second+sign+"0")
			reads(t, of(api.ESub, of(kind, a), of(other, b)), sign+"a - "+second+"b")
		}
		reads(t, of(kind, index("v", num(1))), sign+"v[1]")
		reads(t, of(kind, call("g", of(api.EAdd, a, b))), sign+"g(a + b)")
		reads(t, of(kind, of(api.EWord, of(api.EAdd, a, b))), sign+"word(a + b)")
		reads(t, of(kind, bits(api.ERor, a, 1)), sign+"ror(a, 1)")
		reads(t, of(kind, bits(api.EShl, a, 1)), sign+"(a << 1)")
		reads(t, of(kind, of(api.EMul, a, b)), sign+"(a * b)")
		reads(t, of(kind, of(api.ELt, a, b)), sign+"(a < b)")
		reads(t, of(kind, of(kind, of(api.EOr, a, b))), sign+sign+"(a | b)")
		reads(t, of(api.EMul, of(kind, of(api.EMul, a, b)), of(kind, a)), sign+"(a * b) * "+sign+"a")
	}
}

func TestSignsBetweenByHand(t *testing.T) {
	add, sub, mul := of(api.EAdd, a, b), of(api.ESub, a, b), of(api.EMul, a, b)
	and, or, xor := of(api.EAnd, a, b), of(api.EOr, a, b), of(api.EXor, a, b)
	shl, shr, eq, lt := bits(api.EShl, a, 1), bits(api.EShr, a, 2), of(api.EEq, a, b), of(api.ELt, a, b)
	for _, x := range []struct {
		x    api.Expr
		want string
	}{
		{of(api.EAdd, add, c), "a + b + c"}, {of(api.EAdd, c, add), "c + (a + b)"}, {of(api.ESub, sub, c), "a - b - c"}, {of(api.ESub, c, sub), "c - (a - b)"}, {of(api.ESub, add, sub), "a + b - (a - b)"},
		{of(api.EMul, mul, c), "a * b * c"}, {of(api.EMul, c, mul), "c * (a * b)"}, {of(api.EMul, add, sub), "(a + b) * (a - b)"}, {of(api.EAdd, mul, mul), "a * b + a * b"}, {of(api.ESub, c, mul), "c - a * b"},
		{of(api.EAnd, and, and), "a & b & (a & b)"}, {of(api.EOr, or, or), "a | b | (a | b)"}, {of(api.EXor, xor, xor), "a ^ b ^ (a ^ b)"},
		{of(api.EOr, xor, and), "a ^ b | a & b"}, {of(api.EXor, or, and), "(a | b) ^ a & b"}, {of(api.EAnd, or, xor), "(a | b) & (a ^ b)"}, {of(api.EXor, and, or), "a & b ^ (a | b)"},
		{of(api.EAnd, shl, shr), "a << 1 & a >> 2"}, {of(api.EAdd, shl, shr), "(a << 1) + (a >> 2)"}, {bits(api.EShl, shr, 3), "a >> 2 << 3"}, {bits(api.EShr, add, 3), "a + b >> 3"}, {bits(api.EShl, mul, 3), "a * b << 3"}, {bits(api.EShl, and, 3), "(a & b) << 3"}, {bits(api.EShl, eq, 3), "(a == b) << 3"}, {of(api.EMul, shl, shr), "(a << 1) * (a >> 2)"},
		{of(api.EEq, eq, c), "(a == b) == c"}, {of(api.EEq, c, eq), "c == (a == b)"}, {of(api.ELt, eq, lt), "(a == b) < (a < b)"}, {of(api.EEq, or, xor), "a | b == a ^ b"}, {of(api.EGe, add, shl), "a + b >= a << 1"}, {of(api.ENe, and, mul), "a & b != a * b"},
		{of(api.EOr, eq, lt), "(a == b) | (a < b)"}, {of(api.EAnd, lt, c), "(a < b) & c"}, {of(api.EMul, c, lt), "c * (a < b)"}, {of(api.EAdd, eq, eq), "(a == b) + (a == b)"},
		{bits(api.ERor, eq, 3), "ror(a == b, 3)"}, {of(api.ESelect, eq, or, add), "select(a == b, a | b, a + b)"}, {of(api.EHigh, lt, eq), "mulhi(a < b, a == b)"}, {of(api.ECarry, add, shl), "carry(a + b, a << 1)"}, {of(api.EWord, eq), "word(a == b)"}, {index("v", eq), "v[a == b]"}, {call("g", eq, or), "g(a == b, a | b)"},
	} {
		reads(t, x.x, x.want)
	}
}

// samples are expressions of each kind, made of other ones.
func samples(l ...api.Expr) []api.Expr {
	var out []api.Expr
	for kind := api.ENum; kind <= api.EWord; kind++ {
		x, n := api.Expr{Kind: kind}, needs(kind)
		if kind == api.ECall {
			n.args = 3
		}
		for k := range n.args {
			x.Args = append(x.Args, l[k%len(l)])
		}
		if n.named {
			x.Name = "g"
		}
		if n.numbered {
			x.Num = 5
		}
		out = append(out, x)
	}
	return out
}

// within are all expressions of a kind that have another one at one of their places, and names at the others.
func within(x api.Expr) []api.Expr {
	var out []api.Expr
	for kind := api.ENum; kind <= api.EWord; kind++ {
		n := needs(kind)
		if kind == api.ECall {
			n.args = 3
		}
		for k := range n.args {
			out = append(out, wrapped(x, kind, k))
		}
	}
	return out
}

// exact fails if an expression is not written as the document's words say, if it is not parsed as what it was, or if there are parentheses that it could do without.
func exact(t *testing.T, x api.Expr) {
	t.Helper()
	want := spelled(x)
	reads(t, x, want)
	program := does(set("y", x))
	same(t, "fn f() { y = "+want+"; }", program)
	for _, pair := range hollow(want) {
		s := want[:pair[0]] + " " + want[pair[0]+1:pair[1]] + " " + want[pair[1]+1:]
		p, bad := syntax.Parse("fn f() { y = " + s + "; }")
		if bad == (api.Bad{}) && placeless(p) == placeless(program) {
			t.Errorf("%q could do without the parentheses at %v", want, pair)
		}
	}
}

// placeless tells all of a program but its places.
func placeless(p api.Program) string {
	q := copied(p)
	for k := range q.Funcs {
		f := &q.Funcs[k]
		f.Pos = 0
		for j := range f.Params {
			f.Params[j].Pos = 0
		}
		stmts(f.Body, func(s *api.Stmt) { s.Pos = 0 }, func(x *api.Expr) { x.Pos = 0 })
	}
	return fmt.Sprintf("%+v", q)
}

// stmts goes through all statements and expressions of a list.
func stmts(l []api.Stmt, one func(*api.Stmt), each func(*api.Expr)) {
	for k := range l {
		one(&l[k])
		exprs(l[k].Args, each)
		stmts(l[k].Body, one, each)
		stmts(l[k].Else, one, each)
	}
}

// exprs goes through all expressions of a list.
func exprs(l []api.Expr, each func(*api.Expr)) {
	for k := range l {
		each(&l[k])
		exprs(l[k].Args, each)
	}
}

// copied tells a program that shares no list with another one.
func copied(p api.Program) api.Program {
	q := api.Program{Funcs: slices.Clone(p.Funcs)}
	for k := range q.Funcs {
		q.Funcs[k].Params = slices.Clone(q.Funcs[k].Params)
		q.Funcs[k].Body = copiedStmts(q.Funcs[k].Body)
	}
	return q
}

func copiedStmts(l []api.Stmt) []api.Stmt {
	out := slices.Clone(l)
	for k := range out {
		out[k].Args = copiedExprs(out[k].Args)
		out[k].Body = copiedStmts(out[k].Body)
		out[k].Else = copiedStmts(out[k].Else)
	}
	return out
}

func copiedExprs(l []api.Expr) []api.Expr {
	out := slices.Clone(l)
	for k := range out {
		out[k].Args = copiedExprs(out[k].Args)
	}
	return out
}

// same fails if a text is not parsed as a program, places aside.
func same(t *testing.T, s string, want api.Program) {
	t.Helper()
	p, bad := syntax.Parse(s)
	if got, want := placeless(p), placeless(want); bad != (api.Bad{}) || got != want {
		t.Errorf("%s is parsed as %+v\n%s, want\n%s", short(s), bad, short(got), short(want))
	}
}

func TestEachWithinEach(t *testing.T) {
	for _, x := range samples(a, b, c) {
		exact(t, x)
		for _, y := range within(x) {
			exact(t, y)
			for _, z := range within(y) {
				exact(t, z)
			}
		}
	}
}

func TestEachOnBothSides(t *testing.T) {
	for _, x := range samples(a, b, c) {
		for _, y := range samples(num(1), num(2)) {
			for _, z := range samples(x, y) {
				exact(t, z)
			}
		}
	}
}

func TestEachWithinEachOfChance(t *testing.T) {
	r := rand.New(rand.NewPCG(13, 1))
	for range 8000 {
		x := (&chance{r: r, left: r.IntN(30)}).expr()
		if deepestNest(spelled(x)) < 64 { // one is left for the block
			exact(t, x)
		}
	}
}

// values are statements with an expression at each place where there may be one, each with its line.
func values(x api.Expr) map[string]api.Stmt {
	s := spelled(x)
	return map[string]api.Stmt{
		" let y = " + s + ";\n":                 let("y", x),
		" y = " + s + ";\n":                     set("y", x),
		" v[" + s + "] = 1;\n":                  store("v", x, num(1)),
		" v[1] = " + s + ";\n":                  store("v", num(1), x),
		" if " + s + " {\n }\n":                 when(x),
		" if " + s + " {\n } else {\n }\n":      either(x, nil, nil),
		" for i < " + s + " max 9 {\n }\n":      loop("i", x, 9),
		" g(" + s + ");\n":                      do(call("g", x)),
		" g(a, " + s + ", " + s + ", b);\n":     do(call("g", a, x, x, b)),
		" return " + s + ";\n":                  give(x),
		" y = v[" + s + "];\n":                  set("y", index("v", x)),
		" if g(" + s + ") {\n  return 0;\n }\n": when(call("g", x), give(num(0))),
	}
}

func TestEachExpressionAtEachPlace(t *testing.T) {
	for _, x := range samples(a, b, c) {
		for _, y := range append(within(x), x) {
			for want, s := range values(y) {
				printsBody(t, want, s)
				same(t, "fn f() {\n"+want+"}\n", does(s))
			}
		}
	}
	printsBody(t, " for i < a < b max 3 {\n }\n", loop("i", of(api.ELt, a, b), 3))
	printsBody(t, " if a == b {\n }\n", when(of(api.EEq, a, b)))
	printsBody(t, " if (a == b) == c {\n }\n", when(of(api.EEq, of(api.EEq, a, b), c)))
	printsBody(t, " x = a == b;\n", set("x", of(api.EEq, a, b)))
}

// P13.1: the text of statements, blocks and functions

func TestEachStatement(t *testing.T) {
	for _, x := range []struct {
		s    api.Stmt
		want string
	}{
		{let("n", a), " let n = a;\n"},
		{declare("n", api.Type{}), " var pub n: u32;\n"},
		{set("n", a), " n = a;\n"},
		{store("n", a, b), " n[a] = b;\n"},
		{do(call("n")), " n();\n"},
		{do(call("n", a)), " n(a);\n"},
		{do(call("n", a, b)), " n(a, b);\n"},
		{give(a), " return a;\n"},
		{when(a), " if a {\n }\n"},
		{when(a, set("x", b)), " if a {\n  x = b;\n }\n"},
		{when(a, set("x", b), give(c)), " if a {\n  x = b;\n  return c;\n }\n"},
		{either(a, nil, nil), " if a {\n } else {\n }\n"},
		{either(a, []api.Stmt{set("x", b)}, nil), " if a {\n  x = b;\n } else {\n }\n"},
		{either(a, nil, []api.Stmt{set("x", b)}), " if a {\n } else {\n  x = b;\n }\n"},
		{either(a, []api.Stmt{set("x", b)}, []api.Stmt{set("y", c), do(call("g"))}), " if a {\n  x = b;\n } else {\n  y = c;\n  g();\n }\n"},
		{loop("i", a, 9), " for i < a max 9 {\n }\n"},
		{loop("i", a, 0, set("x", b)), " for i < a max 0 {\n  x = b;\n }\n"},
	} {
		printsBody(t, x.want, x.s)
		for _, y := range []string{" let n = a;\n", " if a {\n }\n"} {
			other := map[string]api.Stmt{" let n = a;\n": let("n", a), " if a {\n }\n": when(a)}[y]
			printsBody(t, x.want+y, x.s, other)
			printsBody(t, y+x.want+y, other, x.s, other)
		}
	}
}

func TestBlocksWithinBlocks(t *testing.T) {
	printsBody(t, ` if a {
  for i < b max 3 {
   if c {
   } else {
    x = 1;
   }
   y = 2;
  }
  z = 3;
 } else {
  if a {
   var sec m: mask;
  }
 }
 g();
`,
		either(a, []api.Stmt{
			loop("i", b, 3, either(c, nil, []api.Stmt{set("x", num(1))}), set("y", num(2))), set("z", num(3)),
		}, []api.Stmt{when(a, declare("m", api.Type{Elem: api.TMask, Label: api.Sec}))}), do(call("g")))
	// As many blanks as there are blocks, as deep as they may lie in one another.
	for deep := range 64 {
		for block := range 3 {
			s, want := set("x", num(1)), strings.Repeat(" ", deep+1)+"x = 1;\n"
			for k := deep; k > 0; k-- {
				ahead := strings.Repeat(" ", k)
				head := []string{"for i < c max 7 {\n", "if c {\n" + ahead + "} else {\n", "if c {\n"}[block]
				s, want = enclosed(s, block), ahead+head+want+ahead+"}\n"
			}
			printsBody(t, want, s)
		}
	}
}

// allTypes are types with their texts.
var allTypes = []struct {
	t    api.Type
	want string
}{
	{api.Type{}, "u32"}, {api.Type{Elem: api.TMask}, "mask"}, {api.Type{Elem: api.TU8, Len: 1}, "u8[1]"}, {api.Type{Elem: api.TU8, Len: 16}, "u8[16]"}, {api.Type{Elem: api.TU8, Len: 1<<32 - 1}, "u8[4294967295]"},
	{api.Type{Len: 1}, "u32[1]"}, {api.Type{Len: 16384}, "u32[16384]"}, {api.Type{Len: 1<<32 - 1}, "u32[4294967295]"},
}

func TestEachType(t *testing.T) {
	for label, word := range []string{"pub", "sec"} {
		for _, x := range allTypes {
			x.t.Label = label
			printsBody(t, " var "+word+" n: "+x.want+";\n", declare("n", x.t))
			for _, out := range []bool{false, true} {
				p := api.Param{Name: "n", Type: x.t, Out: out}
				want := map[bool]string{true: "out "}[out] + word + " n: " + x.want
				prints(t, api.Program{Funcs: []api.Func{{Name: "f", Params: []api.Param{p}}}}, "fn f("+want+") {\n}\n")
				q := api.Param{Name: "k", Type: api.Type{Elem: api.TMask, Label: api.Sec}}
				prints(t, api.Program{Funcs: []api.Func{{Name: "f", Params: []api.Param{q, p, q}}}}, "fn f(sec k: mask, "+want+", sec k: mask) {\n}\n")
			}
		}
		prints(t, api.Program{Funcs: []api.Func{{Name: "f", Has: true, Result: api.Type{Label: label}}}}, "fn f(): "+word+" u32 {\n}\n")
		prints(t, api.Program{Funcs: []api.Func{{Name: "f", Has: true, Result: api.Type{Label: label, Elem: api.TMask}}}}, "fn f(): "+word+" mask {\n}\n")
	}
}

func TestFunctions(t *testing.T) {
	prints(t, api.Program{}, "")
	prints(t, api.Program{Funcs: []api.Func{}}, "")
	prints(t, api.Program{Funcs: []api.Func{{Name: "f"}}}, "fn f() {\n}\n")
	prints(t, api.Program{Funcs: []api.Func{{Name: "f"}, {Name: "g"}, {Name: "f"}}}, "fn f() {\n}\nfn g() {\n}\nfn f() {\n}\n")
	prints(t, api.Program{Funcs: []api.Func{
		{Name: "f", Params: []api.Param{{Name: "a"}, {Name: "b", Type: api.Type{Elem: api.TU8, Len: 3, Label: api.Sec}, Out: true}}, Has: true, Result: api.Type{Label: api.Sec}, Body: []api.Stmt{give(a), give(b)}},
		{Name: "main", Params: []api.Param{{Name: "c", Type: api.Type{Len: 4}, Out: true}}, Body: []api.Stmt{store("c", num(0), num(1))}},
	}}, "fn f(pub a: u32, out sec b: u8[3]): sec u32 {\n return a;\n return b;\n}\nfn main(out pub c: u32[4]) {\n c[0] = 1;\n}\n")
	for _, n := range []int{1, 2, 63, 64, 65, 1000} {
		f, want := api.Func{Name: "f"}, []string(nil)
		for k := range n {
			f.Params = append(f.Params, api.Param{Name: "p" + strconv.Itoa(k)})
			want = append(want, "pub p"+strconv.Itoa(k)+": u32")
		}
		prints(t, api.Program{Funcs: []api.Func{f}}, "fn f("+strings.Join(want, ", ")+") {\n}\n")
	}
}

func TestPlacesDoNotMatter(t *testing.T) {
	r := rand.New(rand.NewPCG(13, 2))
	for range 500 {
		p := programOf(r, r.IntN(60))
		want, e := Program(p)
		for _, pos := range []int{0, 1, -1, math.MinInt, math.MaxInt} {
			q := copied(p)
			for k := range q.Funcs {
				q.Funcs[k].Pos = pos
				for j := range q.Funcs[k].Params {
					q.Funcs[k].Params[j].Pos = pos
				}
				stmts(q.Funcs[k].Body, func(s *api.Stmt) { s.Pos = pos }, func(x *api.Expr) { x.Pos = pos })
			}
			if s, f := Program(q); s != want || f != e {
				t.Fatalf("with places %d: %s, %v, want %s, %v", pos, short(s), f, short(want), e)
			}
		}
	}
	reads(t, api.Expr{Kind: api.ENum, Pos: -5, Num: 5}, "5")
}

// P13.1: what is not well made

// Names, and texts that are none.
var (
	names = []string{"a", "Z", "_", "_0", "a1", "fnx", "Fn", "FN", "main", "u321", "u16", "xu8", "words", "selects", "roror", "max_", "abort", strings.Repeat("a", 39), strings.Repeat("a", 40), strings.Repeat("_", 40)}
	nones = []string{
		"", " ", "0", "1", "1a", "0x1", "01", "4294967296", strings.Repeat("a", 41), strings.Repeat("a", 1000), strings.Repeat("a", 65536), strings.Repeat("a", 65537), " a", "a ", "a\n", "\ta", "a b", "a//", "a// b", "//a\na", "// a", "a-b", "a.b", "a(", "a()", "a[0]", "-a", "(a)", "+", "=", ";", "é", "aé", "a\x00", "\x00", "\xff", "$a", "a'", "#",
		"fn", "pub", "sec", "out", "let", "var", "if", "else", "for", "max", "return", "u32", "u8", "mask", "mulhi", "carry", "select", "word", "ror",
	}
	noNumbers = []int{-1, -2, 1 << 32, 1<<32 + 1, 1 << 33, 1 << 40, -1 << 32, 1 - 1<<32, math.MaxInt, math.MinInt, math.MinInt + 1}
	noKinds   = []int{0, -1, -26, 27, 28, 1000, 1 << 32, 1<<32 + 1, math.MaxInt, math.MinInt}
)

// spoiltExprs are all ways of breaking an expression at its head.
func spoiltExprs(x api.Expr) []api.Expr {
	var out []api.Expr
	add := func(change func(*api.Expr)) {
		y := x
		y.Args = slices.Clone(x.Args)
		change(&y)
		out = append(out, y)
	}
	n := needs(x.Kind)
	for _, k := range noKinds {
		add(func(y *api.Expr) { y.Kind = k })
	}
	badNames, badNumbers := nones, noNumbers
	if !n.named {
		badNames = []string{"a", " ", "fn", "x1", "1", "\x00"}
	}
	if !n.numbered {
		badNumbers = append(slices.Clone(noNumbers), 1, 2, 31, 1<<32-1)
	}
	for _, s := range badNames {
		add(func(y *api.Expr) { y.Name = s })
	}
	for _, k := range badNumbers {
		add(func(y *api.Expr) { y.Num = k })
	}
	if x.Kind != api.ECall {
		add(func(y *api.Expr) { y.Args = append(y.Args, num(1)) })
		add(func(y *api.Expr) { y.Args = append(y.Args, a, b) })
		add(func(y *api.Expr) { y.Args = append([]api.Expr{a}, y.Args...) })
		if len(x.Args) > 0 {
			add(func(y *api.Expr) { y.Args = y.Args[:len(y.Args)-1] })
			add(func(y *api.Expr) { y.Args = nil })
		}
	}
	return out
}

// spoilt are one broken expression of each kind of break.
func spoilt() []api.Expr {
	return []api.Expr{
		{}, {Kind: 27}, {Kind: api.ENum, Num: -1}, {Kind: api.ENum, Num: 1 << 32}, {Kind: api.ENum, Name: "a"}, {Kind: api.EName}, {Kind: api.EName, Name: "fn"}, {Kind: api.EName, Name: " a"}, {Kind: api.EName, Name: "a", Num: 1},
		call("fn"), call(""), index("max", a), of(api.EAdd, a), of(api.EAdd, a, b, c), of(api.ENot), bits(api.EShl, a, -1), bits(api.ERor, a, 1<<32), of(api.ESelect, a, b), of(api.EWord, a, b), {Kind: api.EIndex, Name: "v"}, {Kind: api.EIndex, Name: "v", Args: []api.Expr{a, b}},
	}
}

func TestBrokenExpressions(t *testing.T) {
	for _, x := range samples(a, num(1), of(api.EAdd, a, b)) {
		reads(t, x, spelled(x))
		for _, y := range spoiltExprs(x) {
			notExpr(t, y, api.ErrArg)
			notProgram(t, does(set("y", y)), api.ErrArg)
		}
	}
}

func TestBrokenExpressionsWithinOthers(t *testing.T) {
	for _, x := range spoilt() {
		notExpr(t, x, api.ErrArg)
		for _, y := range within(x) {
			notExpr(t, y, api.ErrArg)
			for _, z := range within(y) {
				notExpr(t, z, api.ErrArg)
			}
		}
		r := rand.New(rand.NewPCG(13, 3))
		for deep := range 150 {
			y := x
			for range deep {
				y = wrapped(y, 1+r.IntN(api.EWord), r.IntN(3))
			}
			notExpr(t, y, api.ErrArg)
			notProgram(t, does(give(y)), api.ErrArg)
		}
	}
}

// holders are statements that have an expression at each place where there may be one.
func holders(x api.Expr) []api.Stmt {
	return []api.Stmt{let("y", x), set("y", x), store("v", x, a), store("v", a, x), when(x), either(x, nil, nil), loop("i", x, 1), give(x), do(call("g", x)), do(call("g", a, x)), do(x)}
}

// holds are programs that have a statement at each place where there may be one.
func holds(s api.Stmt) []api.Program {
	l := []api.Stmt{s}
	first, last := []api.Stmt{s, give(a)}, []api.Stmt{set("x", a), s}
	return []api.Program{
		does(s), does(first...), does(last...), does(set("x", a), s, set("y", b)),
		does(when(a, l...)), does(when(a, first...)), does(when(a, last...)), does(either(a, l, nil)), does(either(a, nil, l)), does(either(a, first, last)), does(either(a, nil, last)), does(either(a, last, nil)),
		does(loop("i", a, 1, l...)), does(loop("i", a, 1, first...)), does(loop("i", a, 1, last...)), does(when(a, loop("i", a, 1, when(b), either(b, nil, last)))),
		{Funcs: []api.Func{{Name: "f"}, {Name: "g", Body: l}}}, {Funcs: []api.Func{{Name: "f", Body: l}, {Name: "g"}}}, {Funcs: []api.Func{{Name: "f"}, {Name: "g", Body: last}, {Name: "h"}}},
	}
}

func TestBrokenExpressionsInStatements(t *testing.T) {
	for _, x := range spoilt() {
		for _, s := range holders(x) {
			for _, p := range holds(s) {
				notProgram(t, p, api.ErrArg)
			}
		}
		for _, y := range within(x) {
			for _, s := range holders(y) {
				notProgram(t, does(s), api.ErrArg)
			}
		}
	}
}

// eachStmt are statements of each kind.
func eachStmt() []api.Stmt {
	return []api.Stmt{
		let("x", a), declare("x", api.Type{}), declare("x", api.Type{Elem: api.TMask, Label: api.Sec}), declare("x", api.Type{Elem: api.TU8, Len: 4}), declare("x", api.Type{Len: 4}), set("x", num(1)), store("x", a, b),
		when(a), when(a, set("x", b)), either(a, nil, nil), either(a, []api.Stmt{set("x", b)}, []api.Stmt{set("y", b)}), loop("i", a, 0), loop("i", a, 1<<32-1, set("x", b)), do(call("g")), do(call("g", a, b)), give(a),
	}
}

// noTypes are types that are not well made.
func noTypes() []api.Type {
	out := []api.Type{{Elem: api.TU8}, {Elem: api.TU8, Label: api.Sec}, {Elem: api.TMask, Len: 1}, {Elem: api.TMask, Len: -1}, {Elem: api.TMask, Len: 1 << 32}}
	for _, n := range noNumbers {
		out = append(out, api.Type{Len: n}, api.Type{Elem: api.TU8, Len: n}, api.Type{Elem: api.TMask, Len: n}, api.Type{Len: n, Label: api.Sec})
	}
	for _, n := range []int{2, 3, -1, 1 << 32, math.MaxInt, math.MinInt} {
		for _, x := range allTypes {
			x.t.Label = n
			out = append(out, x.t)
		}
	}
	for _, n := range []int{3, 4, -1, 1 << 32, math.MaxInt, math.MinInt} {
		out = append(out, api.Type{Elem: n}, api.Type{Elem: n, Len: 1}, api.Type{Elem: n, Label: api.Sec}, api.Type{Elem: n, Len: 4, Label: api.Sec})
	}
	return out
}

// spoiltStmts are all ways of breaking a statement at its head.
func spoiltStmts(x api.Stmt) []api.Stmt {
	var out []api.Stmt
	add := func(change func(*api.Stmt)) {
		s := x
		s.Args = slices.Clone(x.Args)
		change(&s)
		out = append(out, s)
	}
	for _, k := range []int{0, -1, -8, 9, 10, 26, 1 << 32, 1<<32 + 1, math.MaxInt, math.MinInt} {
		add(func(s *api.Stmt) { s.Kind = k })
	}
	badNames, badNumbers, badTypes := nones, append(slices.Clone(noNumbers), 1, 9, 1<<32-1), []api.Type{{Len: 1}, {Label: api.Sec}, {Elem: api.TMask}, {Elem: api.TU8, Len: 3}, {Len: -1}, {Label: -1}, {Elem: -1}}
	if x.Name == "" {
		badNames = []string{"a", " ", "fn", "1", "\x00"}
	}
	if x.Kind == api.SFor {
		badNumbers = noNumbers
	}
	if x.Kind == api.SVar {
		badTypes = noTypes()
	}
	for _, n := range badNames {
		add(func(s *api.Stmt) { s.Name = n })
	}
	for _, n := range badNumbers {
		add(func(s *api.Stmt) { s.Most = n })
	}
	for _, n := range badTypes {
		add(func(s *api.Stmt) { s.Type = n })
	}
	add(func(s *api.Stmt) { s.Args = append(s.Args, call("g")) })
	add(func(s *api.Stmt) { s.Args = append([]api.Expr{call("g"), call("g")}, s.Args...) })
	if len(x.Args) > 0 {
		add(func(s *api.Stmt) { s.Args = s.Args[1:] })
		add(func(s *api.Stmt) { s.Args = nil })
	}
	return append(out, spoiltBlocks(x)...)
}

// spoiltBlocks are all ways of giving a statement blocks that it has not.
func spoiltBlocks(x api.Stmt) []api.Stmt {
	var out []api.Stmt
	l := []api.Stmt{set("z", a)}
	for _, body := range [][]api.Stmt{nil, l} {
		for _, other := range [][]api.Stmt{nil, l} {
			for _, has := range []bool{false, true} {
				branch, loops := x.Kind == api.SIf, x.Kind == api.SFor
				right := (body == nil || branch || loops) && (!has || branch) && (other == nil || has)
				if !right {
					s := x
					s.Body, s.Else, s.Has = body, other, has
					out = append(out, s)
				}
			}
		}
	}
	return out
}

func TestBrokenStatements(t *testing.T) {
	for _, x := range eachStmt() {
		for k, p := range holds(x) {
			prints(t, p, written(p))
			for _, s := range spoiltStmts(x) {
				notProgram(t, holds(s)[k], api.ErrArg)
			}
		}
	}
}

func TestWhatIsDoneIsACall(t *testing.T) {
	for _, x := range samples(a, b, c) {
		if x.Kind == api.ECall {
			printsBody(t, " g(a, b, c);\n", do(x))
			continue
		}
		for _, p := range holds(do(x)) {
			notProgram(t, p, api.ErrArg)
		}
	}
}

func TestBrokenStatementsDeepDown(t *testing.T) {
	for _, x := range eachStmt() {
		broken := spoiltStmts(x)
		for deep := range 70 {
			s := broken[deep%len(broken)]
			for k := range deep {
				s = enclosed(s, (deep+k)%3)
			}
			notProgram(t, does(s), api.ErrArg)
		}
	}
}

func TestBrokenFunctions(t *testing.T) {
	right := api.Func{Name: "f", Params: []api.Param{{Name: "a"}, {Name: "b", Type: api.Type{Elem: api.TU8, Len: 2}, Out: true}, {Name: "c", Type: api.Type{Elem: api.TMask}}}, Has: true, Result: api.Type{Label: api.Sec}, Body: []api.Stmt{give(a)}}
	var broken []api.Func
	add := func(change func(*api.Func)) {
		f := right
		f.Params = slices.Clone(f.Params)
		change(&f)
		broken = append(broken, f)
	}
	for _, s := range nones {
		add(func(f *api.Func) { f.Name = s })
		for k := range right.Params {
			add(func(f *api.Func) { f.Params[k].Name = s })
		}
	}
	for _, x := range append(noTypes(), api.Type{Len: 1}, api.Type{Len: 1<<32 - 1, Label: api.Sec}, api.Type{Elem: api.TU8, Len: 1}, api.Type{Elem: api.TU8, Len: 16, Label: api.Sec}) {
		add(func(f *api.Func) { f.Result = x })
		add(func(f *api.Func) { f.Has, f.Result = false, x })
	}
	for _, x := range []api.Type{{Label: api.Sec}, {Elem: api.TMask}, {Elem: api.TMask, Label: api.Sec}} {
		add(func(f *api.Func) { f.Has, f.Result = false, x })
	}
	for _, x := range noTypes() {
		for k := range right.Params {
			add(func(f *api.Func) { f.Params[k].Type = x })
		}
	}
	prints(t, api.Program{Funcs: []api.Func{right}}, "fn f(pub a: u32, out pub b: u8[2], pub c: mask): sec u32 {\n return a;\n}\n")
	for _, f := range broken {
		notProgram(t, api.Program{Funcs: []api.Func{f}}, api.ErrArg)
		notProgram(t, api.Program{Funcs: []api.Func{right, f}}, api.ErrArg)
		notProgram(t, api.Program{Funcs: []api.Func{f, right}}, api.ErrArg)
		notProgram(t, api.Program{Funcs: []api.Func{right, f, right}}, api.ErrArg)
	}
}

func TestNames(t *testing.T) {
	for _, s := range names {
		reads(t, named(s), s)
		reads(t, index(s, a), s+"[a]")
		reads(t, call(s, a), s+"(a)")
		printsBody(t, " let "+s+" = a;\n var pub "+s+": u32;\n "+s+" = a;\n "+s+"[a] = b;\n for "+s+" < a max 1 {\n }\n "+s+"();\n",
			let(s, a), declare(s, api.Type{}), set(s, a), store(s, a, b), loop(s, a, 1), do(call(s)))
		prints(t, api.Program{Funcs: []api.Func{{Name: s, Params: []api.Param{{Name: s}}}}}, "fn "+s+"(pub "+s+": u32) {\n}\n")
	}
	for _, s := range nones {
		notExpr(t, named(s), api.ErrArg)
		notExpr(t, index(s, a), api.ErrArg)
		notExpr(t, call(s, a), api.ErrArg)
	}
	for k := range 256 {
		s := string([]byte{byte(k)})
		letter := s == "_" || "a" <= s && s <= "z" || "A" <= s && s <= "Z"
		if letter {
			reads(t, named(s), s)
		} else {
			notExpr(t, named(s), api.ErrArg)
		}
		if letter || "0" <= s && s <= "9" {
			reads(t, named("q"+s), "q"+s)
		} else {
			notExpr(t, named("q"+s), api.ErrArg)
		}
	}
}

// P13.1: what lies too deep

// nests are ways of putting an expression into a nest more.
var nests = map[string]func(api.Expr) api.Expr{
	"~":       func(x api.Expr) api.Expr { return of(api.ENot, x) },
	"-":       func(x api.Expr) api.Expr { return of(api.ENeg, x) },
	"!":       func(x api.Expr) api.Expr { return of(api.EFlip, x) },
	"[]":      func(x api.Expr) api.Expr { return index("v", x) },
	"g()":     func(x api.Expr) api.Expr { return call("g", x) },
	"g(a,)":   func(x api.Expr) api.Expr { return call("g", a, x, b) },
	"mulhi,":  func(x api.Expr) api.Expr { return of(api.EHigh, x, a) },
	",mulhi":  func(x api.Expr) api.Expr { return of(api.EHigh, a, x) },
	"carry,":  func(x api.Expr) api.Expr { return of(api.ECarry, x, a) },
	",carry":  func(x api.Expr) api.Expr { return of(api.ECarry, a, x) },
	"select1": func(x api.Expr) api.Expr { return of(api.ESelect, x, a, b) },
	"select2": func(x api.Expr) api.Expr { return of(api.ESelect, a, x, b) },
	"select3": func(x api.Expr) api.Expr { return of(api.ESelect, a, b, x) },
	"word":    func(x api.Expr) api.Expr { return of(api.EWord, x) },
	"ror":     func(x api.Expr) api.Expr { return bits(api.ERor, x, 1) },
	// Parentheses that the text alone has: where x is no name.
	"(+)*":   func(x api.Expr) api.Expr { return of(api.EMul, of(api.EAdd, a, of(api.EMul, b, x)), c) },
	"*(+)":   func(x api.Expr) api.Expr { return of(api.EMul, a, of(api.EAdd, x, b)) },
	"(==)":   func(x api.Expr) api.Expr { return of(api.EEq, of(api.ELt, word(x), a), b) },
	"(==)|":  func(x api.Expr) api.Expr { return of(api.EOr, of(api.ELt, a, b), x) },
	"(|)<<":  func(x api.Expr) api.Expr { return bits(api.EShl, of(api.EOr, a, of(api.EAnd, x, b)), 1) },
	"-(-)":   func(x api.Expr) api.Expr { return of(api.ESub, a, of(api.ESub, b, x)) },
	"~(a*)":  func(x api.Expr) api.Expr { return of(api.ENot, of(api.EMul, a, x)) },
	"a*b*x":  func(x api.Expr) api.Expr { return of(api.EMul, of(api.EMul, a, b), x) },
	"x*b":    func(x api.Expr) api.Expr { return of(api.EMul, x, b) },
	"x << 1": func(x api.Expr) api.Expr { return bits(api.EShl, x, 1) },
}

// word keeps a comparison on the left of another one from having two pairs of parentheses.
func word(x api.Expr) api.Expr { return of(api.EAdd, x, a) }

// judged fails if an expression is not told to lie too deep exactly where one of its nests lies within 64 others, by itself and in a program.
func judged(t *testing.T, x api.Expr) {
	t.Helper()
	s := spelled(x)
	if deepestNest(s) > 64 {
		notExpr(t, x, api.ErrDeep)
	} else {
		reads(t, x, s)
	}
	for blocks := range 3 {
		stmt := give(x)
		for k := range blocks {
			stmt = enclosed(stmt, k)
		}
		judgedProgram(t, does(stmt))
	}
}

// judgedProgram fails if a program is not told to lie too deep exactly where one of its nests lies within 64 others.
func judgedProgram(t *testing.T, p api.Program) {
	t.Helper()
	s := written(p)
	_, bad := syntax.Parse(s)
	if deep := deepestNest(s) > 64; deep != (bad.Err == api.ErrDeep) && len(s) <= 65536 {
		t.Errorf("%s: there are nests of %d, but it is %+v", short(s), deepestNest(s), bad)
	} else if deep {
		notProgram(t, p, api.ErrDeep)
	} else {
		prints(t, p, s)
	}
}

func TestHowDeepSignsLie(t *testing.T) {
	for _, sign := range []struct {
		kind int
		text string
	}{{api.ENot, "~"}, {api.ENeg, "-"}, {api.EFlip, "!"}} {
		x := a
		for n := range 70 {
			if n <= 64 {
				reads(t, x, strings.Repeat(sign.text, n)+"a")
			} else {
				notExpr(t, x, api.ErrDeep)
			}
			if n <= 63 {
				printsBody(t, " x = "+strings.Repeat(sign.text, n)+"a;\n", set("x", x))
			} else {
				notProgram(t, does(set("x", x)), api.ErrDeep)
			}
			x = of(sign.kind, x)
		}
	}
}

func TestHowDeepParenthesesLie(t *testing.T) {
	// Those that the text alone has.
	x := of(api.EAdd, a, b)
	for n := range 70 {
		if n <= 64 {
			reads(t, x, strings.Repeat("a - (", n)+"a + b"+strings.Repeat(")", n))
		} else {
			notExpr(t, x, api.ErrDeep)
		}
		x = of(api.ESub, a, x)
	}
	// None are needed, so that nothing is deep.
	x = a
	for range 1000 {
		x = of(api.EAdd, x, b)
	}
	reads(t, x, "a"+strings.Repeat(" + b", 1000))
	for range 1000 {
		x = bits(api.EShl, x, 3)
	}
	reads(t, x, "a"+strings.Repeat(" + b", 1000)+strings.Repeat(" << 3", 1000))
}

func TestHowDeepEachNestLies(t *testing.T) {
	for _, f := range nests {
		for _, x := range []api.Expr{a, call("h"), of(api.EAdd, a, b), of(api.ELt, a, b)} {
			for n := range 70 {
				if deep := deepestNest(spelled(x)); n < 3 || 61 <= deep && deep <= 67 {
					judged(t, x)
				}
				x = f(x)
			}
		}
		// Nests that end count no more.
		deepest := a
		for y, n := f(a), 0; n < 70 && deepestNest(spelled(y)) <= 62; y, n = f(y), n+1 {
			deepest = y
		}
		for _, y := range samples(deepest, of(api.EAdd, deepest, deepest)) {
			judged(t, y)
		}
		judged(t, of(api.EAdd, deepest, of(api.ENot, deepest)))
		judged(t, of(api.EAdd, of(api.ENot, deepest), of(api.ENot, of(api.ENot, deepest))))
	}
}

func TestHowDeepMixedNestsLie(t *testing.T) {
	var ways []func(api.Expr) api.Expr
	var kinds []string
	for kind := range nests {
		kinds = append(kinds, kind)
	}
	slices.Sort(kinds)
	for _, kind := range kinds {
		ways = append(ways, nests[kind])
	}
	r := rand.New(rand.NewPCG(13, 4))
	told := map[bool]int{}
	for range 500 {
		x := a
		for deepestNest(spelled(x)) < 61+r.IntN(6) {
			x = ways[r.IntN(len(ways))](x)
		}
		judged(t, x)
		told[deepestNest(spelled(x)) > 64]++
	}
	if told[true] < 50 || told[false] < 50 {
		t.Errorf("%v: too few of one kind", told)
	}
}

func TestHowDeepBlocksLie(t *testing.T) {
	inner := eachStmt()
	for _, x := range []api.Expr{num(1), call("h"), of(api.ENeg, a), index("v", a)} {
		inner = append(inner, let("x", x), set("x", x), store("x", x, x), when(x), loop("i", x, 2), give(x), do(call("g", x)))
	}
	for _, s := range inner {
		for block := range 4 {
			x := s
			for deep := range 68 {
				if deep > 60 {
					judgedProgram(t, does(x))
					judgedProgram(t, api.Program{Funcs: []api.Func{{Name: "f"}, {Name: "g", Body: []api.Stmt{set("x", a), x, give(b)}}}})
				}
				x = enclosed(x, (block+deep*(block/3))%3)
			}
		}
	}
	// A block within 63 others may be empty, or have what opens no nest.
	x := when(a)
	for range 62 {
		x = when(a, x)
	}
	prints(t, does(x), written(does(x)))
	notProgram(t, does(when(a, x)), api.ErrDeep)
	// An else is no deeper than its if.
	y := either(a, nil, nil)
	for k := range 62 {
		block := []api.Stmt{y}
		if k%2 == 0 {
			y = either(a, block, []api.Stmt{when(b, set("x", a))})
		} else {
			y = either(a, []api.Stmt{when(b, set("x", a))}, block)
		}
	}
	prints(t, does(y), written(does(y)))
	notProgram(t, does(either(a, nil, []api.Stmt{y})), api.ErrDeep)
}

func TestWhatIsNoNest(t *testing.T) {
	// Brackets of types, and parentheses of parameters.
	s := declare("v", api.Type{Elem: api.TU8, Len: 9})
	for range 63 {
		s = loop("i", a, 3, s)
	}
	p := does(s)
	p.Funcs[0].Params = []api.Param{{Name: "v", Type: api.Type{Len: 8}}}
	prints(t, p, written(p))
	notProgram(t, does(loop("i", a, 3, s)), api.ErrDeep)
	// Functions do not lie in one another.
	var many api.Program
	for range 200 {
		many.Funcs = append(many.Funcs, p.Funcs[0])
	}
	prints(t, many, written(many))
}

func TestDeeperStill(t *testing.T) {
	for _, n := range []int{65, 66, 128, 1000, 20000} {
		for _, f := range nests {
			x := of(api.EAdd, a, b)
			if n > 1000 {
				x = of(api.ENot, x)
			}
			for range n {
				x = f(x)
			}
			if s, e := Expr(x); e != api.ErrDeep && e != api.OK || (e == api.OK) != (s != "") {
				t.Errorf("Expr = %s, %v", short(s), e)
			}
		}
		x, s := a, set("x", a)
		for range n {
			x, s = of(api.ENeg, x), when(a, s)
		}
		notExpr(t, x, api.ErrDeep)
		notProgram(t, does(set("x", x)), api.ErrDeep)
		notProgram(t, does(s), api.ErrDeep)
	}
}

func TestWhichErrorIsTold(t *testing.T) {
	deep := a
	for range 65 {
		deep = of(api.ENot, deep)
	}
	notExpr(t, deep, api.ErrDeep)
	deepBlock := set("x", a)
	for range 65 {
		deepBlock = when(a, deepBlock)
	}
	notProgram(t, does(deepBlock), api.ErrDeep)
	for _, x := range spoilt() {
		// Ahead of it, behind it, and within.
		notExpr(t, of(api.EAdd, x, deep), api.ErrArg)
		notExpr(t, of(api.EAdd, deep, x), api.ErrArg)
		notExpr(t, call("g", deep, deep, x), api.ErrArg)
		y := x
		for range 100 {
			y = of(api.ENot, y)
		}
		notExpr(t, y, api.ErrArg)
		notProgram(t, does(set("y", deep), set("y", x)), api.ErrArg)
		notProgram(t, does(deepBlock, give(x)), api.ErrArg)
		notProgram(t, does(give(x), deepBlock), api.ErrArg)
		notProgram(t, does(set("y", y)), api.ErrArg)
	}
	bad := []api.Func{{Name: "fn"}, {Name: "f", Result: api.Type{Len: 1}}, {Name: "f", Params: []api.Param{{}}}, {Name: "f", Has: true, Result: api.Type{Len: 1}}, {Name: "f", Body: []api.Stmt{{}}}}
	for _, f := range bad {
		g := api.Func{Name: "g", Body: []api.Stmt{deepBlock}}
		notProgram(t, api.Program{Funcs: []api.Func{f, g}}, api.ErrArg)
		notProgram(t, api.Program{Funcs: []api.Func{g, f}}, api.ErrArg)
		f.Body = append(f.Body, deepBlock)
		notProgram(t, api.Program{Funcs: []api.Func{f}}, api.ErrArg)
	}
	// A text that is right ahead of an error is not told.
	notProgram(t, api.Program{Funcs: []api.Func{{Name: "f"}, {Name: "g"}, {Name: "h", Body: []api.Stmt{give(a), deepBlock}}}}, api.ErrDeep)
	notExpr(t, of(api.EAdd, a, deep), api.ErrDeep)
	notExpr(t, of(api.EAdd, deep, a), api.ErrDeep)
}

// P13.2 and P13.3

func TestBack(t *testing.T) {
	r := rand.New(rand.NewPCG(13, 5))
	told := map[api.Errno]int{}
	deepest := 0
	for range 6000 {
		p := programOf(r, r.IntN(150))
		want := written(p)
		s, e := Program(p)
		told[e]++
		if deepestNest(want) > 64 {
			notProgram(t, p, api.ErrDeep)
			continue
		}
		deepest = max(deepest, deepestNest(want))
		if s != want || e != api.OK {
			t.Fatalf("Program(%+v) = %q, %v, want %q", p, s, e, want)
		}
		same(t, s, p)
		again, _ := syntax.Parse(s)
		prints(t, again, s)
	}
	if told[api.OK] < 4000 || told[api.ErrDeep] < 100 || deepest != 64 {
		t.Errorf("%v, the deepest one %d: too few of one kind", told, deepest)
	}
}

func TestBackWithBlanksBetween(t *testing.T) {
	// Of texts that are not printed ones the program is kept too.
	r := rand.New(rand.NewPCG(13, 6))
	parts := []string{" ", "\n", "\t", "\r\n", "  ", " // a remark {(\n"}
	for range 2000 {
		s, e := Program(programOf(r, r.IntN(80)))
		if e != api.OK {
			continue
		}
		other := ""
		for _, x := range strings.Fields(s) {
			x = strings.NewReplacer("(", " ( ", ")", "\n)", ",", "\t, ", ";", " ;", "]", " ]", "~", "~ ").Replace(x)
			other += x + parts[r.IntN(len(parts))]
		}
		p, bad := syntax.Parse(other)
		if bad != (api.Bad{}) {
			t.Fatalf("%q: %+v", other, bad)
		}
		prints(t, p, s)
	}
}

func TestBackWithParentheses(t *testing.T) {
	for from, want := range map[string]string{
		"((a))": "a", "(((1)))": "1", "(a)+(b)": "a + b", "(a+b)": "a + b", "((a)*(b))+c": "a * b + c", "(a*b)*c": "a * b * c", "a*(b*c)": "a * (b * c)", "~(a)": "~a", "-((-(a)))": "--a", "(~a)*b": "~a * b", "~(a*b)": "~(a * b)",
		"((a<<(1)))": "", "(a<<1)<<2": "a << 1 << 2", "(a==b)": "a == b", "(a==b)==(c)": "(a == b) == c", "(a|b)==(c&a)": "a | b == c & a", "v[(a)]": "v[a]", "g((a),(b+c))": "g(a, b + c)", "select((a==b),(a),((b)))": "select(a == b, a, b)", "ror((a+b),3)": "ror(a + b, 3)", "0x10": "16", "a<<0x1f": "a << 31", "(a-b)-(c-(1-2))": "a - b - (c - (1 - 2))",
	} {
		p, bad := syntax.Parse("fn f(){x=" + from + ";}")
		if (bad == (api.Bad{})) != (want != "") {
			t.Fatal(from, bad)
		}
		if want != "" {
			prints(t, p, "fn f() {\n x = "+want+";\n}\n")
			reads(t, p.Funcs[0].Body[0].Args[0], want)
		}
	}
}

func TestGreatTexts(t *testing.T) {
	// A text of 65536 bytes is parsed again, a longer one is printed all the same.
	for _, more := range []int{-1, 0, 1, 2, 30} {
		// " x = 1;" and its end are 8 bytes, head and end of the function 11.
		l := slices.Repeat([]api.Stmt{set("x", num(1))}, 8189)
		p := does(append(l, set(strings.Repeat("x", 6+more), num(1)))...)
		s, e := Program(p)
		if s != written(p) || len(s) != 65536+more || e != api.OK {
			t.Fatalf("%d bytes, %v, want %d", len(s), e, 65536+more)
		}
		if more <= 0 {
			same(t, s, p)
		} else if _, bad := syntax.Parse(s); bad.Err != api.ErrBig {
			t.Errorf("%d bytes: %+v", len(s), bad)
		}
	}
}

func TestLongLists(t *testing.T) {
	x, want := a, "a"
	for range 60000 {
		x = of(api.ESub, x, num(1))
	}
	want += strings.Repeat(" - 1", 60000)
	reads(t, x, want)
	printsBody(t, " x = "+want+";\n", set("x", x))
	args := slices.Repeat([]api.Expr{a}, 100000)
	reads(t, call("g", args...), "g("+strings.Repeat("a, ", 99999)+"a)")
	printsBody(t, strings.Repeat(" x = a;\n", 100000), slices.Repeat([]api.Stmt{set("x", a)}, 100000)...)
	prints(t, api.Program{Funcs: slices.Repeat([]api.Func{{Name: "f"}}, 100000)}, strings.Repeat("fn f() {\n}\n", 100000))
}

// What holds in every layer

// guarded tells a program whose lists have more behind their ends, and a call that tells whether that is unchanged.
func guarded(p api.Program) (api.Program, func() bool) {
	var watches []func() bool
	q := copied(p)
	odd, oddStmt, oddFunc, oddParam := named("odd"), set("odd", num(-3)), api.Func{Name: "odd 1"}, api.Param{Name: "odd 2"}
	var exprList func([]api.Expr) []api.Expr
	exprList = func(l []api.Expr) []api.Expr {
		out := append(slices.Clone(l), odd)
		for k := range l {
			out[k].Args = exprList(l[k].Args)
		}
		watches = append(watches, func() bool { return reflect.DeepEqual(out[len(l)], odd) })
		return out[:len(l)]
	}
	var stmtList func([]api.Stmt) []api.Stmt
	stmtList = func(l []api.Stmt) []api.Stmt {
		out := append(slices.Clone(l), oddStmt)
		for k := range l {
			out[k].Args, out[k].Body, out[k].Else = exprList(l[k].Args), stmtList(l[k].Body), stmtList(l[k].Else)
		}
		watches = append(watches, func() bool { return reflect.DeepEqual(out[len(l)], oddStmt) })
		return out[:len(l)]
	}
	for k := range q.Funcs {
		n := len(q.Funcs[k].Params)
		l := append(slices.Clone(q.Funcs[k].Params), oddParam)
		watches = append(watches, func() bool { return l[n] == oddParam })
		q.Funcs[k].Params, q.Funcs[k].Body = l[:n], stmtList(q.Funcs[k].Body)
	}
	n := len(q.Funcs)
	l := append(q.Funcs, oddFunc)
	watches = append(watches, func() bool { return reflect.DeepEqual(l[n], oddFunc) })
	q.Funcs = l[:n]
	return q, func() bool {
		return !slices.ContainsFunc(watches, func(unchanged func() bool) bool { return !unchanged() })
	}
}

func TestNothingIsChanged(t *testing.T) {
	r := rand.New(rand.NewPCG(13, 7))
	for k := range 2000 {
		p := programOf(r, r.IntN(60))
		if k%5 == 0 && len(p.Funcs) > 0 {
			p.Funcs[len(p.Funcs)-1].Body = append(p.Funcs[len(p.Funcs)-1].Body, give(spoilt()[k%len(spoilt())]))
		}
		want := copied(p)
		text, e := Program(p)
		q, unchanged := guarded(p)
		if s, f := Program(q); s != text || f != e {
			t.Fatalf("with more behind the lists' ends: %s, %v, want %s, %v", short(s), f, short(text), e)
		}
		if !reflect.DeepEqual(p, want) || fmt.Sprint(q) != fmt.Sprint(p) || !unchanged() {
			t.Fatalf("%+v was changed", want)
		}
	}
	x, want := of(api.EAdd, a, call("g", b)), of(api.EAdd, a, call("g", b))
	if Expr(x); !reflect.DeepEqual(x, want) {
		t.Error("an expression was changed")
	}
}

func TestNilAndEmptyAreTheSame(t *testing.T) {
	r := rand.New(rand.NewPCG(13, 8))
	for range 1000 {
		p := programOf(r, r.IntN(60))
		text, e := Program(p)
		q := copied(p)
		for k := range q.Funcs {
			f := &q.Funcs[k]
			if len(f.Params) == 0 {
				f.Params = []api.Param{}
			}
			if f.Body == nil {
				f.Body = []api.Stmt{}
			}
			stmts(f.Body, func(s *api.Stmt) {
				s.Args, s.Body, s.Else = append([]api.Expr{}, s.Args...), append([]api.Stmt{}, s.Body...), append([]api.Stmt{}, s.Else...)
			}, func(x *api.Expr) { x.Args = append([]api.Expr{}, x.Args...) })
		}
		if s, f := Program(q); s != text || f != e {
			t.Fatalf("%s, %v, want %s, %v", short(s), f, short(text), e)
		}
	}
	reads(t, api.Expr{Kind: api.ENum, Args: []api.Expr{}}, "0")
	reads(t, api.Expr{Kind: api.ECall, Name: "g", Args: []api.Expr{}}, "g()")
}

func TestAnswersAreNewMemory(t *testing.T) {
	for _, s := range []string{"a", "name", strings.Repeat("q", 40)} {
		s = strings.Clone(s)
		from := uintptr(unsafe.Pointer(unsafe.StringData(s)))
		first, _ := Expr(named(s))
		second, _ := Expr(named(s))
		program, _ := Program(does(set(s, a)))
		for _, text := range []string{first, second, program} {
			at := uintptr(unsafe.Pointer(unsafe.StringData(text)))
			if at < from+uintptr(len(s)) && from < at+uintptr(len(text)) {
				t.Errorf("the text of %s shares its memory", s)
			}
		}
		if unsafe.StringData(first) == unsafe.StringData(second) {
			t.Errorf("two texts of %s share memory", s)
		}
	}
}

func TestNothingIsKept(t *testing.T) {
	r := rand.New(rand.NewPCG(13, 9))
	x, p := of(api.EMul, of(api.EAdd, a, b), of(api.ENot, c)), does(when(a, set("x", b)))
	for range 300 {
		Program(programOf(r, 100))
		Expr(spoilt()[r.IntN(len(spoilt()))])
		reads(t, x, "(a + b) * ~c")
		prints(t, p, "fn f() {\n if a {\n  x = b;\n }\n}\n")
	}
	var all sync.WaitGroup
	for range 8 {
		all.Go(func() {
			for range 200 {
				reads(t, x, "(a + b) * ~c")
				prints(t, p, "fn f() {\n if a {\n  x = b;\n }\n}\n")
			}
		})
	}
	all.Wait()
}
