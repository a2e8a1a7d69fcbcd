package syntax

import (
	"hauberk/api"
	"hauberk/lex"
)

// many is more than any list has, since each thing has a byte at least.
const many = lex.Most

// reader goes through tokens. Behind its first error nothing but the text's end is left, with which nothing goes on, so that whatever is being read soon ends.
type reader struct {
	left  []api.Token // never none: the text's end is not taken
	nests int         // how many are open
	bad   api.Bad
}

// fail keeps an error at the next token, if it is the first one.
func (r *reader) fail(e api.Errno) {
	if !r.failed() {
		r.bad = api.Bad{Err: e, Pos: r.next().Pos}
	}
	r.left = r.left[len(r.left)-1:]
}

// failed tells whether there was an error.
func (r *reader) failed() bool { return r.bad != (api.Bad{}) }

// next tells the next token.
func (r *reader) next() api.Token { return r.left[0] }

// is tells whether the next token is that word or sign. No name has the text of one.
func (r *reader) is(text string) bool { return r.next().Text == text }

// may takes a word or sign, if it is next, and tells whether it was.
func (r *reader) may(text string) bool {
	if !r.is(text) {
		return false
	}
	r.left = r.left[1:]
	return true
}

// want takes a word or sign that has to be next.
func (r *reader) want(text string) {
	if !r.may(text) {
		r.fail(api.ErrSyntax)
	}
}

// take takes a token of a kind that has to be next, and tells it.
func (r *reader) take(kind int) api.Token {
	t := r.next()
	if t.Kind != kind {
		r.fail(api.ErrSyntax)
		return api.Token{}
	}
	r.left = r.left[1:]
	return t
}

// open takes a sign that has to be next and opens a nest.
func (r *reader) open(sign string) {
	if r.is(sign) && r.nests == Deep {
		r.fail(api.ErrDeep)
	}
	r.want(sign)
	r.nests++
}

// shut takes a sign that has to be next and ends a nest.
func (r *reader) shut(sign string) {
	r.want(sign)
	r.nests--
}

// list reads things of one kind in parentheses with commas between, from least to most of them. Parentheses of parameters are taken as a nest too: no other one is open there, nor opened within, so nobody can tell.
func list[T any](r *reader, least, most int, one func() T) []T {
	var l []T
	r.open("(")
	for !r.failed() && (len(l) < least || len(l) < most && !r.is(")")) {
		if len(l) > 0 {
			r.want(",")
		}
		l = append(l, one())
	}
	r.shut(")")
	return l
}
