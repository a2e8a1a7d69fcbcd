package eval

import "hauberk/api"

// array is what there is to read and to write, be it of words or of bytes.
type array interface {
	size() int
	at(k int) int
	put(k, value int)
}

// words are elements that hold whole words.
type words []uint32

func (w words) size() int        { return len(w) }
func (w words) at(k int) int     { return int(w[k]) }
func (w words) put(k, value int) { w[k] = uint32(value) }

// octets are elements that hold the lowest 8 bits of a word.
type octets []byte

func (o octets) size() int        { return len(o) }
func (o octets) at(k int) int     { return int(o[k]) }
func (o octets) put(k, value int) { o[k] = byte(value) }

// held is what a name stands for: a value, or an array. Who has it has the array itself, and not what is in it.
type held struct {
	value int
	array array
}

// made tells what a name of a type stands for at first: 0, in all elements.
func made(t api.Type) held {
	switch {
	case t.Len == 0:
		return held{}
	case t.Elem == api.TU8:
		return held{array: make(octets, t.Len)}
	}
	return held{array: make(words, t.Len)}
}

// filled tells what is held, with elements in it; a value is one element.
func filled(h held, l []int) held {
	if h.array == nil {
		return held{value: l[0]}
	}
	for k, x := range l {
		h.array.put(k, x)
	}
	return h
}

// elements tells all that is in an array.
func elements(a array) []int {
	var l []int
	for k := range a.size() {
		l = append(l, a.at(k))
	}
	return l
}

// read tells an array's element; false, if there is no such one.
func read(a array, k int) (int, bool) {
	if k >= a.size() {
		return 0, false
	}
	return a.at(k), true
}

// store puts a value in an array's element; false, if there is no such one.
func store(a array, k, value int) bool {
	if k >= a.size() {
		return false
	}
	a.put(k, value)
	return true
}
