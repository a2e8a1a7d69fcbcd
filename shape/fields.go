package shape

import (
	"iter"

	"hauberk/api"
	"hauberk/types"
)

// wide is how many bytes a word has.
const wide = 4

// width tells how many bytes an element has.
func width(t api.Type) int {
	if t.Elem == api.TU8 {
		return 1
	}
	return wide
}

// count tells how many elements there are; a scalar is one.
func count(t api.Type) int { return max(t.Len, 1) }

// size tells how many bytes a field of a type has, made up to whole words.
func size(t api.Type) int { return (count(t)*width(t) + wide - 1) / wide * wide }

// ends is where the input and the output end that fields were laid in.
type ends struct{ in, out int }

// take lays a field of so many bytes, and tells where it begins.
func (e *ends) take(out bool, size int) int {
	end := &e.in
	if out {
		end = &e.out
	}
	at := *end
	*end += size
	return at
}

// laid tells where the input and the output end, and whether the fields may be.
func laid(l []api.Field) (ends, bool) {
	var e ends
	for _, f := range l {
		// A type that may not be is told first: its size may be greater than any number.
		if !fine(f.Type, f.Out) || f.Size != size(f.Type) || f.Off != e.take(f.Out, f.Size) {
			return ends{}, false
		}
	}
	if e.in > types.Bytes || e.out > types.Bytes {
		return ends{}, false
	}
	return e, true
}

// fine tells whether a field may have a type. What goes out is an array, and bytes are there in arrays alone.
func fine(t api.Type, out bool) bool {
	least := 0
	if out || t.Elem == api.TU8 {
		least = 1
	}
	return (t.Elem == api.TU32 || t.Elem == api.TU8) && (t.Label == api.Pub || t.Label == api.Sec) && t.Len >= least && t.Len <= types.Array
}

// going hands over the fields that go out, or those that do not, in order.
func going(l []api.Field, out bool) iter.Seq[api.Field] {
	return func(yield func(api.Field) bool) {
		for _, f := range l {
			if f.Out == out && !yield(f) {
				return
			}
		}
	}
}

// beside hands over each field that does not go out with its value; with none, if there is none for it.
func beside(l []api.Field, v [][]int) iter.Seq2[api.Field, []int] {
	return func(yield func(api.Field, []int) bool) {
		rest := v
		for f := range going(l, false) {
			var value []int
			if len(rest) > 0 {
				value, rest = rest[0], rest[1:]
			}
			if !yield(f, value) {
				return
			}
		}
	}
}

// fit tells whether there is a value for each field that does not go out, with all its elements, and no more of them.
func fit(l []api.Field, v [][]int) bool {
	fields := 0
	for f, value := range beside(l, v) {
		// There is no field of no elements, so none goes without a value.
		if len(value) != count(f.Type) {
			return false
		}
		fields++
	}
	return fields == len(v)
}
