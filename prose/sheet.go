package prose

import (
	"strconv"
	"strings"

	"hauberk/api"
)

// deepest is how many nests may lie in one another.
const deepest = 64

// sheet is what is written on.
type sheet struct{ text strings.Builder }

// put writes texts, one behind the other.
func (s *sheet) put(texts ...string) {
	for _, x := range texts {
		s.text.WriteString(x)
	}
}

// number writes a number.
func (s *sheet) number(n int) { s.put(strconv.Itoa(n)) }

// listed writes things of one kind with commas between.
func listed[T any](s *sheet, l []T, one func(T)) {
	for k, x := range l {
		if k > 0 {
			s.put(", ")
		}
		one(x)
	}
}

// nesting counts nests.
type nesting struct {
	nests int  // how many are open
	deep  bool // whether one was to lie within too many others
}

// enter opens a nest, unless too many are open, and tells whether it did.
func (n *nesting) enter() bool {
	if n.nests == deepest {
		n.deep = true
		return false
	}
	n.nests++
	return true
}

// leave ends a nest.
func (n *nesting) leave() { n.nests-- }

// writer writes a text. What it writes with is embedded in it: statements, in those expressions, and in those the sheet, and the count of nests.
type writer struct{ statements }

// told tells what was written.
func (w *writer) told() (string, api.Errno) {
	if w.deep {
		return "", api.ErrDeep
	}
	return w.text.String(), api.OK
}
