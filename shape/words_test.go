package shape

import (
	"math/rand/v2"
	"slices"
	"strings"

	"hauberk/api"
)

// The document's words, spelled a second time: byte by byte, without the package's own reckoning.

// spelledBytes tells how many bytes the elements of a type have.
func spelledBytes(t api.Type) int {
	switch {
	case t.Len == 0:
		return 4
	case t.Elem == api.TU8:
		return t.Len
	}
	return t.Len + t.Len + t.Len + t.Len
}

// spelledSize tells them with so many behind that they are a multiple of 4.
func spelledSize(t api.Type) int {
	n := spelledBytes(t)
	for n&3 != 0 {
		n++
	}
	return n
}

// spelledLay tells fields of which Off and Size are as they should be.
func spelledLay(l []api.Field) []api.Field {
	next := map[bool]int{}
	l = slices.Clone(l)
	for k := range l {
		l[k].Size = spelledSize(l[k].Type)
		l[k].Off = next[l[k].Out]
		next[l[k].Out] += l[k].Size
	}
	return l
}

// spelledSizes tells how many bytes go in, and out, and whether the fields may be.
func spelledSizes(l []api.Field) (int, int, bool) {
	for _, f := range l {
		switch t := f.Type; {
		case t.Elem == api.TU32 && t.Len < 0, t.Elem == api.TU8 && t.Len < 1, t.Elem != api.TU32 && t.Elem != api.TU8:
			return 0, 0, false
		case t.Label < api.Pub, t.Label > api.Sec, t.Len > 16384, f.Out && t.Len == 0:
			return 0, 0, false
		}
	}
	if !slices.Equal(l, spelledLay(l)) {
		return 0, 0, false
	}
	bytes := map[bool]int{}
	for _, f := range l {
		bytes[f.Out] += f.Size
	}
	if bytes[false] > 65536 || bytes[true] > 65536 {
		return 0, 0, false
	}
	return bytes[false], bytes[true], true
}

// spelledPack tells the input of values.
func spelledPack(l []api.Field, v [][]int) (string, api.Errno) {
	if _, _, ok := spelledSizes(l); !ok {
		return "", api.ErrArg
	}
	var s strings.Builder
	rest := slices.Clone(v)
	for _, f := range l {
		if f.Out {
			continue
		}
		if len(rest) == 0 || f.Type.Len > 0 && len(rest[0]) != f.Type.Len || f.Type.Len == 0 && len(rest[0]) != 1 {
			return "", api.ErrArity
		}
		for _, x := range rest[0] {
			u := uint64(x)
			s.WriteByte(byte(u % 256))
			if f.Type.Elem == api.TU32 {
				s.WriteByte(byte(u / 256 % 256))
				s.WriteByte(byte(u / 65536 % 256))
				s.WriteByte(byte(u / 16777216 % 256))
			}
		}
		for s.Len()%4 != 0 {
			s.WriteByte(0)
		}
		rest = rest[1:]
	}
	if len(rest) > 0 {
		return "", api.ErrArity
	}
	return s.String(), api.OK
}

// spelledUnpack tells the values of an output: what is read is taken away from ahead.
func spelledUnpack(l []api.Field, out string) ([][]int, api.Errno) {
	if _, n, ok := spelledSizes(l); !ok || n != len(out) {
		return nil, api.ErrArg
	}
	var v [][]int
	for _, f := range l {
		if !f.Out {
			continue
		}
		var value []int
		for s := out[:f.Size]; len(value) < f.Type.Len; {
			x := int(s[0])
			s = s[1:]
			if f.Type.Elem == api.TU32 {
				x += 256*int(s[0]) + 65536*int(s[1]) + 16777216*int(s[2])
				s = s[3:]
			}
			value = append(value, x)
		}
		v = append(v, value)
		out = out[f.Size:]
	}
	return v, api.OK
}

// spelledPublic tells of each byte of an input whether it is one of a public element.
func spelledPublic(l []api.Field) []bool {
	var public []bool
	for _, f := range l {
		for k := range f.Size {
			if !f.Out {
				public = append(public, f.Type.Label == api.Pub && k < spelledBytes(f.Type))
			}
		}
	}
	return public
}

// spelledAgree tells whether two inputs agree.
func spelledAgree(l []api.Field, a, b string) bool {
	n, _, ok := spelledSizes(l)
	if !ok || len(a) != n || len(b) != n {
		return false
	}
	for k, public := range spelledPublic(l) {
		if public && a[k] != b[k] {
			return false
		}
	}
	return true
}

// Fields and values of chance.

// someType tells a type that a field may have.
func someType(r *rand.Rand, out bool) api.Type {
	t := api.Type{Elem: api.TU8 * r.IntN(2), Len: 1 + r.IntN(9), Label: r.IntN(2)}
	if !out && t.Elem == api.TU32 && r.IntN(2) == 0 {
		t.Len = 0
	}
	if r.IntN(100) == 0 {
		t.Len = 16384 - r.IntN(5)
	}
	return t
}

// someFields tells fields; they may be, unless they are too many bytes.
func someFields(r *rand.Rand) []api.Field {
	var l []api.Field
	for k := range r.IntN(8) {
		out := r.IntN(3) == 0
		l = append(l, api.Field{Name: "f" + string(rune('0'+k)), Type: someType(r, out), Out: out})
	}
	return spelledLay(l)
}

// someNumber tells a number of any size, with or without a sign.
func someNumber(r *rand.Rand) int { return int(r.Uint64()) >> r.IntN(64) }

// someValues tells values that fit fields.
func someValues(r *rand.Rand, l []api.Field) [][]int {
	var v [][]int
	for _, f := range l {
		if f.Out {
			continue
		}
		value := make([]int, max(1, f.Type.Len))
		for k := range value {
			value[k] = someNumber(r)
		}
		v = append(v, value)
	}
	return v
}

// someBytes tells n bytes.
func someBytes(r *rand.Rand, n int) string {
	b := make([]byte, n)
	for k := range b {
		b[k] = byte(r.IntN(256))
	}
	return string(b)
}

// spoilField changes one thing of a field.
func spoilField(r *rand.Rand, f *api.Field) {
	switch r.IntN(6) {
	case 0:
		f.Type.Elem = r.IntN(5) - 1
	case 1:
		f.Type.Label = r.IntN(4) - 1
	case 2:
		f.Type.Len = []int{-1, 0, 1, 2, 5, 16384, 16385}[r.IntN(7)]
	case 3:
		f.Out = !f.Out
	case 4:
		f.Off += []int{-4, -1, 1, 4}[r.IntN(4)]
	default:
		f.Size += []int{-4, -1, 1, 4}[r.IntN(4)]
	}
}
