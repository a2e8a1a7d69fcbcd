package prose

import (
	"slices"
	"strconv"
	"strings"

	"hauberk/api"
	"hauberk/lex"
)

// The document's words, a second time: what a text of a well made program is, and which nests it has.

// levels are the signs between two by their levels, those that bind the loosest first.
var levels = [][]int{
	{api.EEq, api.ENe, api.ELt, api.ELe, api.EGt, api.EGe}, {api.EOr}, {api.EXor}, {api.EAnd}, {api.EShl, api.EShr}, {api.EAdd, api.ESub}, {api.EMul},
}

// spellings are what kinds are written with.
var spellings = map[int]string{
	api.EEq: "==", api.ENe: "!=", api.ELt: "<", api.ELe: "<=", api.EGt: ">", api.EGe: ">=", api.EOr: "|", api.EXor: "^", api.EAnd: "&", api.EShl: "<<", api.EShr: ">>",
	api.EAdd: "+", api.ESub: "-", api.EMul: "*", api.ENot: "~", api.ENeg: "-", api.EFlip: "!",
	api.EHigh: "mulhi", api.ECarry: "carry", api.ESelect: "select", api.EWord: "word", api.ERor: "ror",
}

// levelOf tells the level of a kind that a sign between makes; -1 of another one.
func levelOf(kind int) int {
	return slices.IndexFunc(levels, func(l []int) bool { return slices.Contains(l, kind) })
}

// isAhead tells whether a sign ahead makes a kind.
func isAhead(kind int) bool { return kind == api.ENot || kind == api.ENeg || kind == api.EFlip }

// beside tells the text of what stands beside a sign of a kind.
func beside(x api.Expr, sign int, right bool) string {
	is, by := levelOf(x.Kind), levelOf(sign)
	switch {
	case is < 0:
		return spelled(x)
	case isAhead(sign), is == 0, is < by, right && is == by:
		return "(" + spelled(x) + ")"
	}
	return spelled(x)
}

// commas tells the texts of expressions with commas between.
func commas(l []api.Expr) string {
	var out []string
	for _, x := range l {
		out = append(out, spelled(x))
	}
	return strings.Join(out, ", ")
}

// spelled tells the text of an expression.
func spelled(x api.Expr) string {
	number := strconv.Itoa(x.Num)
	switch {
	case x.Kind == api.ENum:
		return number
	case x.Kind == api.EName:
		return x.Name
	case x.Kind == api.EIndex:
		return x.Name + "[" + commas(x.Args) + "]"
	case x.Kind == api.ECall:
		return x.Name + "(" + commas(x.Args) + ")"
	case x.Kind == api.ERor:
		return "ror(" + commas(x.Args) + ", " + number + ")"
	case isAhead(x.Kind):
		return spellings[x.Kind] + beside(x.Args[0], x.Kind, true)
	case levelOf(x.Kind) < 0:
		return spellings[x.Kind] + "(" + commas(x.Args) + ")"
	case len(x.Args) == 1:
		return beside(x.Args[0], x.Kind, false) + " " + spellings[x.Kind] + " " + number
	}
	return beside(x.Args[0], x.Kind, false) + " " + spellings[x.Kind] + " " + beside(x.Args[1], x.Kind, true)
}

// labelOf and elementsOf tell the parts of a type.
func labelOf(t api.Type) string { return []string{api.Pub: "pub", api.Sec: "sec"}[t.Label] }

func elementsOf(t api.Type) string {
	s := []string{api.TU32: "u32", api.TMask: "mask", api.TU8: "u8"}[t.Elem]
	if t.Len != 0 {
		s += "[" + strconv.Itoa(t.Len) + "]"
	}
	return s
}

// line tells the text of a statement ahead of its blocks, or all of it.
func line(s api.Stmt) string {
	var args []string
	for _, x := range s.Args {
		args = append(args, spelled(x))
	}
	switch s.Kind {
	case api.SLet:
		return "let " + s.Name + " = " + args[0] + ";"
	case api.SVar:
		return "var " + labelOf(s.Type) + " " + s.Name + ": " + elementsOf(s.Type) + ";"
	case api.SSet:
		return s.Name + " = " + args[0] + ";"
	case api.SStore:
		return s.Name + "[" + args[0] + "] = " + args[1] + ";"
	case api.SIf:
		return "if " + args[0]
	case api.SFor:
		return "for " + s.Name + " < " + args[0] + " max " + strconv.Itoa(s.Most)
	case api.SCall:
		return args[0] + ";"
	}
	return "return " + args[0] + ";"
}

// lines tells the lines of statements that lie in so many blocks.
func lines(l []api.Stmt, blocks int) []string {
	ahead := strings.Repeat(" ", blocks)
	var out []string
	for _, s := range l {
		text := ahead + line(s)
		if s.Kind != api.SIf && s.Kind != api.SFor {
			out = append(out, text)
			continue
		}
		out = append(out, text+" {")
		out = append(out, lines(s.Body, blocks+1)...)
		if s.Has {
			out = append(out, ahead+"} else {")
			out = append(out, lines(s.Else, blocks+1)...)
		}
		out = append(out, ahead+"}")
	}
	return out
}

// written tells the text of a program.
func written(p api.Program) string {
	var out []string
	for _, f := range p.Funcs {
		var params []string
		for _, x := range f.Params {
			s := labelOf(x.Type) + " " + x.Name + ": " + elementsOf(x.Type)
			if x.Out {
				s = "out " + s
			}
			params = append(params, s)
		}
		head := "fn " + f.Name + "(" + strings.Join(params, ", ") + ")"
		if f.Has {
			head += ": " + labelOf(f.Result) + " " + elementsOf(f.Result)
		}
		out = append(out, head+" {")
		out = append(out, lines(f.Body, 1)...)
		out = append(out, "}")
	}
	return strings.Join(append(out, ""), "\n")
}

// deepestNest tells within how many others the deepest nest of a text lies, itself counted, by the text's tokens alone.
func deepestNest(s string) int {
	l, _ := lex.Lex(s)
	// What is open: n is a nest in brackets, s one of a sign ahead, b brackets that are no nest.
	open, deepest := "", 0
	ended := func() { open = strings.TrimRight(open, "s") }
	last, elder := api.Token{}, api.Token{}
	for k, t := range l[:len(l)-1] {
		next := l[k+1].Text
		operand := last.Kind == api.KName || last.Kind == api.KNumber || last.Text == ")" || last.Text == "]"
		switch {
		case t.Text == "(" && elder.Text == "fn", t.Text == "[" && (last.Text == "u8" || last.Text == "u32"):
			open += "b"
		case t.Text == "(", t.Text == "[", t.Text == "{":
			open += "n"
		case t.Text == ")", t.Text == "]", t.Text == "}":
			open = open[:len(open)-1]
			ended()
		case t.Text == "~", t.Text == "!", t.Text == "-" && !operand:
			open += "s"
		case t.Kind == api.KNumber, t.Kind == api.KName && next != "(" && next != "[":
			ended()
		}
		deepest = max(deepest, len(open)-strings.Count(open, "b"))
		elder, last = last, t
	}
	return deepest
}

// hollow tells the places of all pairs of parentheses of a text that are not those of a call.
func hollow(s string) [][2]int {
	l, _ := lex.Lex(s)
	var out [][2]int
	var open []api.Token // with 1 as number, if it is one of a call
	last := api.Token{}
	for _, t := range l {
		switch t.Text {
		case "(":
			called := t
			if last.Kind == api.KName || last.Kind == api.KWord && last.Text != "if" && last.Text != "return" {
				called.Num = 1
			}
			open = append(open, called)
		case ")":
			from := open[len(open)-1]
			open = open[:len(open)-1]
			if from.Num == 0 {
				out = append(out, [2]int{from.Pos, t.Pos})
			}
		}
		last = t
	}
	return out
}
