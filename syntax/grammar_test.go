package syntax

import (
	"slices"
	"strings"

	"hauberk/api"
	"hauberk/lex"
)

// grammar is the document's own, letter by letter, but that the number of a type is called length, since it is not 0.
const grammar = `
program = { "fn" name "(" [ param { "," param } ] ")" [ ":" label scalar ] block }
param   = [ "out" ] label name ":" type
label   = "pub" | "sec"
scalar  = "u32" | "mask"
type    = scalar | "u8" "[" length "]" | "u32" "[" length "]"
block   = "{" { stmt } "}"
stmt    = "let" name "=" expr ";" | "var" label name ":" type ";"
        | name "=" expr ";" | name "[" expr "]" "=" expr ";" | name "(" [ args ] ")" ";"
        | "if" expr block [ "else" block ] | "for" name "<" expr "max" number block | "return" expr ";"
args    = expr { "," expr }
expr    = or [ ( "==" | "!=" | "<" | "<=" | ">" | ">=" ) or ]
or      = xor { "|" xor }
xor     = and { "^" and }
and     = shift { "&" shift }
shift   = sum { ( "<<" | ">>" ) number }
sum     = term { ( "+" | "-" ) term }
term    = unary { "*" unary }
unary   = ( "~" | "-" | "!" ) unary | primary
primary = number | name | name "[" expr "]" | name "(" [ args ] ")" | "(" expr ")"
        | ( "mulhi" | "carry" ) "(" expr "," expr ")" | "select" "(" expr "," expr "," expr ")"
        | "word" "(" expr ")" | "ror" "(" expr "," number ")"
`

// production is one way of making what is on its left. A symbol is a text of the grammar; those that stand for groups are made up.
type production struct {
	left  string
	right []string
}

// productions are all of them, and which of them make a symbol; empty tells which symbols may be made of nothing.
type productions struct {
	all   []production
	of    map[string][]int
	empty map[string]bool
}

// made are the grammar's productions.
var made = func() *productions {
	p := &productions{of: map[string][]int{}, empty: map[string]bool{}}
	var left string
	var rest []string
	flush := func() {
		for len(rest) > 0 {
			var right []string
			right, rest = p.sequence(rest)
			p.add(left, right)
			rest = rest[min(1, len(rest)):]
		}
	}
	for _, line := range strings.Split(grammar, "\n") {
		f := strings.Fields(line)
		if len(f) > 1 && f[1] == "=" {
			flush()
			left, f = f[0], f[2:]
		}
		rest = append(rest, f...)
	}
	flush()
	p.nothing()
	return p
}()

// add adds a production.
func (p *productions) add(left string, right []string) {
	p.of[left] = append(p.of[left], len(p.all))
	p.all = append(p.all, production{left, right})
}

// sequence reads symbols up to the next bar, or the end of a group; each group is a symbol of its own.
func (p *productions) sequence(l []string) ([]string, []string) {
	var out []string
	for len(l) > 0 && !strings.Contains("|}])", l[0]) {
		if !strings.Contains("{[(", l[0]) {
			out, l = append(out, l[0]), l[1:]
			continue
		}
		open, group := l[0], "group"+string(rune('A'+len(p.of)))
		p.of[group] = nil
		l = l[1:]
		for more := true; more; l = l[1:] {
			var right []string
			right, l = p.sequence(l)
			if open == "{" {
				right = append([]string{group}, right...)
			}
			p.add(group, right)
			more = l[0] == "|"
		}
		if open != "(" {
			p.add(group, nil)
		}
		out = append(out, group)
	}
	return out, l
}

// nothing finds the symbols that may be made of nothing.
func (p *productions) nothing() {
	for again := true; again; {
		again = false
		for _, x := range p.all {
			some := slices.ContainsFunc(x.right, func(s string) bool { return !p.empty[s] })
			if !some && !p.empty[x.left] {
				p.empty[x.left], again = true, true
			}
		}
	}
}

// item is a production that began at a token and of which so many symbols have come.
type item struct{ production, came, began int }

// chart is all that tokens, one behind the other, may be the beginning of: Earley's way, which goes on with a token exactly if some text does.
type chart struct{ sets [][]item }

// begun is a chart of no token.
func begun() *chart {
	c := &chart{}
	var first []item
	for _, k := range made.of["program"] {
		first = append(first, item{k, 0, 0})
	}
	c.close(first)
	return c
}

// next tells the symbol that an item waits for; "", if all have come.
func (x item) next() string {
	right := made.all[x.production].right
	if x.came == len(right) {
		return ""
	}
	return right[x.came]
}

// close adds a set with all that follows from what is in it.
func (c *chart) close(set []item) {
	at := len(c.sets)
	c.sets = append(c.sets, set)
	seen := map[item]bool{}
	add := func(x item) {
		if !seen[x] {
			seen[x] = true
			c.sets[at] = append(c.sets[at], x)
		}
	}
	for _, x := range set {
		seen[x] = true
	}
	for k := 0; k < len(c.sets[at]); k++ {
		x := c.sets[at][k]
		wanted := x.next()
		if wanted == "" {
			left := made.all[x.production].left
			for _, y := range c.sets[x.began] {
				if y.next() == left {
					add(item{y.production, y.came + 1, y.began})
				}
			}
		}
		for _, p := range made.of[wanted] {
			add(item{p, 0, at})
		}
		if made.empty[wanted] {
			add(item{x.production, x.came + 1, x.began})
		}
	}
}

// stands tells whether a token is what a symbol names.
func stands(symbol string, t api.Token) bool {
	switch symbol {
	case "name":
		return t.Kind == api.KName
	case "number":
		return t.Kind == api.KNumber
	case "length":
		return t.Kind == api.KNumber && t.Num != 0
	}
	return t.Text != "" && symbol == `"`+t.Text+`"`
}

// takes tells whether some beginning of a program goes on with a token.
func (c *chart) takes(t api.Token) bool {
	return slices.ContainsFunc(c.sets[len(c.sets)-1], func(x item) bool { return stands(x.next(), t) })
}

// with is the chart with one more token, which it takes; the one there was goes on as it is.
func (c *chart) with(t api.Token) *chart {
	var set []item
	for _, x := range c.sets[len(c.sets)-1] {
		if stands(x.next(), t) {
			set = append(set, item{x.production, x.came + 1, x.began})
		}
	}
	further := &chart{slices.Clone(c.sets)}
	further.close(set)
	return further
}

// whole tells whether the tokens are a program.
func (c *chart) whole() bool {
	return slices.ContainsFunc(c.sets[len(c.sets)-1], func(x item) bool {
		return x.next() == "" && made.all[x.production].left == "program" && x.began == 0
	})
}

// nesting is which nests are open, told by tokens alone: 'n' is a nest in brackets, 's' one of a sign ahead, and 'b' brackets that are no nest.
type nesting struct {
	open        []byte
	last, elder api.Token
}

// nests tells how many nests are open.
func (n *nesting) nests() int {
	count := 0
	for _, x := range n.open {
		if x != 'b' {
			count++
		}
	}
	return count
}

// ended drops signs ahead, behind what they stand ahead of.
func (n *nesting) ended() {
	for len(n.open) > 0 && n.open[len(n.open)-1] == 's' {
		n.open = n.open[:len(n.open)-1]
	}
}

// opens tells what a token opens; 0, if it opens nothing.
func (n *nesting) opens(t api.Token) byte {
	kind, text := n.last.Kind, n.last.Text
	operand := kind == api.KName || kind == api.KNumber || text == ")" || text == "]"
	switch {
	case t.Text == "(" && n.elder.Text == "fn", t.Text == "[" && (text == "u8" || text == "u32"):
		return 'b'
	case t.Text == "(", t.Text == "[", t.Text == "{":
		return 'n'
	case t.Text == "~", t.Text == "!", t.Text == "-" && !operand:
		return 's'
	}
	return 0
}

// with takes a token with which a program goes on; false, if it opens a nest within 64 others.
func (n *nesting) with(t api.Token) bool {
	if n.last.Kind == api.KName && t.Text != "(" && t.Text != "[" {
		n.ended()
	}
	x := n.opens(t)
	if x != 0 && x != 'b' && n.nests() == 64 {
		return false
	}
	switch {
	case x != 0:
		n.open = append(n.open, x)
	case t.Text == ")", t.Text == "]", t.Text == "}":
		n.open = n.open[:len(n.open)-1]
		n.ended()
	case t.Kind == api.KNumber:
		n.ended()
	}
	n.elder, n.last = n.last, t
	return true
}

// judged tells Parse's error by the document's own words.
func judged(s string) api.Bad {
	l, bad := lex.Lex(s)
	if bad != (api.Bad{}) {
		return bad
	}
	c, n := begun(), &nesting{}
	for _, t := range l[:len(l)-1] {
		if !c.takes(t) {
			return api.Bad{Err: api.ErrSyntax, Pos: t.Pos}
		}
		if !n.with(t) {
			return api.Bad{Err: api.ErrDeep, Pos: t.Pos}
		}
		c = c.with(t)
	}
	if !c.whole() {
		return api.Bad{Err: api.ErrSyntax, Pos: len(s)}
	}
	return api.Bad{}
}
