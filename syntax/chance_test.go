package syntax

import (
	"fmt"
	"math/rand/v2"
	"slices"
	"strconv"
	"strings"

	"hauberk/api"
)

// language are the document's words, signs its signs.
var (
	language = strings.Fields("fn pub sec out let var if else for max return u32 u8 mask mulhi carry select word ror")
	signs    = strings.Fields("<< >> == != <= >= ( ) { } [ ] , ; : = + - * & | ^ ~ ! < >")
)

// The signs between two by their levels, those that bind the loosest first, and what each makes.
var (
	levels = [][]string{{"==", "!=", "<", "<=", ">", ">="}, {"|"}, {"^"}, {"&"}, {"<<", ">>"}, {"+", "-"}, {"*"}}
	makes  = map[string]int{
		"==": api.EEq, "!=": api.ENe, "<": api.ELt, "<=": api.ELe, ">": api.EGt, ">=": api.EGe,
		"|": api.EOr, "^": api.EXor, "&": api.EAnd, "<<": api.EShl, ">>": api.EShr, "+": api.EAdd, "-": api.ESub, "*": api.EMul,
	}
	makesAhead = map[string]int{"~": api.ENot, "-": api.ENeg, "!": api.EFlip}
)

// writer writes a text of chance and tells what is to be made of it: the grammar, followed from its head on.
type writer struct {
	r     *rand.Rand
	text  strings.Builder
	left  int // how much more there should be
	nests int
	wild  bool // whether it opens nests where it can, till there is no room for more
}

// parts are what may stand between two tokens.
var parts = []string{" ", "\n", "\t", "\r\n", "  ", " // a remark {(\n", "//\n"}

// letterLike tells whether a byte goes on with a name, a word or a number.
func letterLike(b byte) bool {
	return b == '_' || '0' <= b && b <= '9' || 'a' <= b && b <= 'z' || 'A' <= b && b <= 'Z'
}

// put writes a token and tells where it is.
func (w *writer) put(token string) int {
	s := w.text.String()
	tight := s != "" && letterLike(s[len(s)-1]) && letterLike(token[0])
	if tight || w.r.IntN(3) == 0 {
		w.text.WriteString(parts[w.r.IntN(len(parts))])
	}
	at := w.text.Len()
	w.text.WriteString(token)
	w.left--
	return at
}

// one tells whether a thing comes about that has so many chances.
func (w *writer) one(chances int) bool { return w.r.IntN(chances) == 0 }

// more tells whether there should be another thing.
func (w *writer) more() bool { return w.left > 0 && !w.one(3) }

// name writes a name.
func (w *writer) name() (int, string) {
	names := []string{"a", "b", "x", "i", "_", "main", "fnx", "max1", "u", "secret", "A9", strings.Repeat("z", 40)}
	s := names[w.r.IntN(len(names))]
	return w.put(s), s
}

// number writes a number.
func (w *writer) number(least int) (int, int) {
	n := int(w.r.Uint32() >> w.r.IntN(32))
	if w.one(4) {
		n = []int{0, 1, 31, 32, 1<<32 - 1}[w.r.IntN(5)]
	}
	n = max(n, least)
	if w.one(3) {
		return w.put("0x" + strconv.FormatInt(int64(n), 16)), n
	}
	return w.put(strconv.Itoa(n)), n
}

// nested writes what lies in a nest.
func (w *writer) nested(open, shut string, within func()) {
	w.put(open)
	w.nests++
	within()
	w.nests--
	w.put(shut)
}

// room tells whether so many more nests may be opened.
func (w *writer) room(nests int) bool { return w.nests+nests <= 64 }

// program writes functions.
func (w *writer) program() api.Program {
	var p api.Program
	for w.left > 0 {
		p.Funcs = append(p.Funcs, w.function())
	}
	return p
}

// function writes a function.
func (w *writer) function() api.Func {
	var f api.Func
	w.put("fn")
	f.Pos, f.Name = w.name()
	w.put("(")
	for !w.one(3) {
		if len(f.Params) > 0 {
			w.put(",")
		}
		f.Params = append(f.Params, w.param())
	}
	w.put(")")
	if f.Has = w.one(3); f.Has {
		w.put(":")
		f.Result.Label = w.label()
		f.Result.Elem = w.scalar()
	}
	f.Body = w.block()
	return f
}

// param writes a parameter.
func (w *writer) param() api.Param {
	var p api.Param
	if p.Out = w.one(2); p.Out {
		w.put("out")
	}
	p.Type.Label = w.label()
	p.Pos, p.Name = w.name()
	w.put(":")
	w.elements(&p.Type)
	return p
}

// label writes a label.
func (w *writer) label() int {
	if w.one(2) {
		w.put("sec")
		return api.Sec
	}
	w.put("pub")
	return api.Pub
}

// scalar writes a scalar.
func (w *writer) scalar() int {
	if w.one(2) {
		w.put("mask")
		return api.TMask
	}
	w.put("u32")
	return api.TU32
}

// elements writes a type into one that has a label.
func (w *writer) elements(t *api.Type) {
	array := w.one(2)
	switch {
	case !array:
		t.Elem = w.scalar()
		return
	case w.one(2):
		t.Elem = api.TU8
		w.put("u8")
	default:
		w.put("u32")
	}
	w.put("[")
	_, t.Len = w.number(1)
	w.put("]")
}

// block writes a block.
func (w *writer) block() []api.Stmt {
	var l []api.Stmt
	w.nested("{", "}", func() {
		for w.more() {
			l = append(l, w.stmt())
		}
	})
	return l
}

// stmt writes a statement.
func (w *writer) stmt() api.Stmt {
	kind := 1 + w.r.IntN(8)
	if (kind == api.SIf || kind == api.SFor || kind == api.SStore || kind == api.SCall) && !w.room(1) {
		kind = api.SSet
	}
	s := api.Stmt{Kind: kind}
	switch kind {
	case api.SLet, api.SReturn:
		word := map[int]string{api.SLet: "let", api.SReturn: "return"}[kind]
		s.Pos = w.put(word)
		if kind == api.SLet {
			_, s.Name = w.name()
			w.put("=")
		}
		s.Args = []api.Expr{w.expr()}
	case api.SVar:
		s.Pos = w.put("var")
		s.Type.Label = w.label()
		_, s.Name = w.name()
		w.put(":")
		w.elements(&s.Type)
	case api.SIf, api.SFor:
		w.ways(&s)
		return s
	case api.SSet, api.SStore:
		s.Pos, s.Name = w.name()
		if kind == api.SStore {
			s.Args = []api.Expr{w.index()}
		}
		w.put("=")
		s.Args = append(s.Args, w.expr())
	case api.SCall:
		var name string
		s.Pos, name = w.name()
		s.Args = []api.Expr{{Kind: api.ECall, Pos: s.Pos, Name: name, Args: w.args()}}
	}
	w.put(";")
	return s
}

// ways writes a statement that has blocks.
func (w *writer) ways(s *api.Stmt) {
	if s.Kind == api.SFor {
		s.Pos = w.put("for")
		_, s.Name = w.name()
		w.put("<")
		s.Args = []api.Expr{w.expr()}
		w.put("max")
		_, s.Most = w.number(0)
		s.Body = w.block()
		return
	}
	s.Pos = w.put("if")
	s.Args = []api.Expr{w.expr()}
	s.Body = w.block()
	if s.Has = w.one(2); s.Has {
		w.put("else")
		s.Else = w.block()
	}
}

// index writes an index.
func (w *writer) index() api.Expr {
	var x api.Expr
	w.nested("[", "]", func() { x = w.expr() })
	return x
}

// args writes what is handed over.
func (w *writer) args() []api.Expr {
	var l []api.Expr
	w.nested("(", ")", func() {
		for w.more() {
			if len(l) > 0 {
				w.put(",")
			}
			l = append(l, w.expr())
		}
	})
	return l
}

// expr writes an expression.
func (w *writer) expr() api.Expr {
	x := w.chain(1)
	if w.left > 0 && w.one(3) {
		x = w.between(x, 0)
	}
	return x
}

// between writes a sign of a level behind what is on its left, and what is on its right.
func (w *writer) between(left api.Expr, level int) api.Expr {
	sign := levels[level][w.r.IntN(len(levels[level]))]
	x := api.Expr{Kind: makes[sign], Pos: w.put(sign), Args: []api.Expr{left}}
	if sign == "<<" || sign == ">>" {
		_, x.Num = w.number(0)
	} else {
		x.Args = append(x.Args, w.chain(level+1))
	}
	return x
}

// chain writes what signs of a level and of those that bind tighter make.
func (w *writer) chain(level int) api.Expr {
	if level == len(levels) {
		return w.unary()
	}
	x := w.chain(level + 1)
	for w.left > 0 && w.one(6) {
		x = w.between(x, level)
	}
	return x
}

// unary writes signs ahead, and what they stand ahead of.
func (w *writer) unary() api.Expr {
	if w.left <= 0 && !w.wild || !w.room(1) || !w.one(4) {
		return w.primary()
	}
	sign := []string{"~", "-", "!"}[w.r.IntN(3)]
	x := api.Expr{Kind: makesAhead[sign], Pos: w.put(sign)}
	w.nests++
	x.Args = []api.Expr{w.unary()}
	w.nests--
	return x
}

// primary writes what no sign stands ahead of.
func (w *writer) primary() api.Expr {
	var x api.Expr
	w.wild = w.wild && w.room(1)
	if w.left <= 0 && !w.wild || !w.room(1) || !w.wild && w.one(3) {
		if w.one(2) {
			x.Kind = api.ENum
			x.Pos, x.Num = w.number(0)
		} else {
			x.Kind = api.EName
			x.Pos, x.Name = w.name()
		}
		return x
	}
	switch w.r.IntN(4) {
	case 0:
		w.nested("(", ")", func() { x = w.expr() })
	case 1:
		x.Kind = api.EIndex
		x.Pos, x.Name = w.name()
		x.Args = []api.Expr{w.index()}
	case 2:
		x.Kind = api.ECall
		x.Pos, x.Name = w.name()
		x.Args = w.args()
	case 3:
		return w.called()
	}
	return x
}

// called writes a word that is called.
func (w *writer) called() api.Expr {
	k := w.r.IntN(5)
	word := []string{"mulhi", "carry", "select", "word", "ror"}[k]
	x := api.Expr{Kind: []int{api.EHigh, api.ECarry, api.ESelect, api.EWord, api.ERor}[k], Pos: w.put(word)}
	w.nested("(", ")", func() {
		for j := range []int{2, 2, 3, 1, 1}[k] {
			if j > 0 {
				w.put(",")
			}
			x.Args = append(x.Args, w.expr())
		}
		if word == "ror" {
			w.put(",")
			_, x.Num = w.number(0)
		}
	})
	return x
}

// chance tells a text of chance, and what is to be made of it.
func chance(r *rand.Rand, left int) (string, api.Program) {
	w := &writer{r: r, left: left, wild: r.IntN(20) == 0}
	p := w.program()
	w.text.WriteString(append(parts, "", "// the end")[r.IntN(len(parts)+2)])
	return w.text.String(), p
}

// vocabulary are tokens of each kind that the grammar tells apart.
var vocabulary = slices.Concat(language, signs, []string{"a", "1", "0"})

// broken tells a text of tokens of which some were changed.
func broken(r *rand.Rand, tokens []string) string {
	l := slices.Clone(tokens)
	for range 1 + r.IntN(2) {
		k := r.IntN(len(l) + 1)
		token := vocabulary[r.IntN(len(vocabulary))]
		switch kind := r.IntN(6); {
		case kind == 0 || k == len(l):
			l = slices.Insert(l, k, token)
		case kind == 1:
			l = slices.Delete(l, k, k+1)
		case kind == 2:
			l = l[:k]
		case kind == 3:
			j := r.IntN(len(l))
			l[k], l[j] = l[j], l[k]
		default:
			l[k] = token
		}
	}
	return strings.Join(l, parts[r.IntN(len(parts))])
}

// pieces tells the tokens of a right text.
func pieces(s string) []string {
	var out []string
	for _, t := range tokens(s) {
		out = append(out, pieceOf(t))
	}
	return out
}

// pieceOf tells a token as a text.
func pieceOf(t api.Token) string {
	if t.Kind == api.KNumber {
		return strconv.Itoa(t.Num)
	}
	return t.Text
}

// short tells a text that can be told.
func short(s string) string {
	if len(s) > 300 {
		return fmt.Sprintf("%q.. (%d bytes)", s[:300], len(s))
	}
	return strconv.Quote(s)
}
