// Package word is layer 1: see shared/doc/01-word.md.
package word

// size is how many bits a word has, ones the word whose bits are all 1, top the number of its highest bit.
const (
	size = 32
	ones = 1<<size - 1
	top  = size - 1
)

// Wrap tells the word of a number.
func Wrap(n int) int { return n & ones }

// count tells the number of bits that an argument stands for; the lowest five bits of a number below 0 are those of the same number without a sign.
func count(n int) int { return n & (size - 1) }

// mask tells a truth as a word.
func mask(yes bool) int {
	if yes {
		return ones
	}
	return 0
}

// product tells a whole product; it takes all 64 bits, so it has no sign.
func product(a, b int) uint64 { return uint64(Wrap(a)) * uint64(Wrap(b)) }

// Add tells a sum.
func Add(a, b int) int { return Wrap(Wrap(a) + Wrap(b)) }

// Sub tells a difference.
func Sub(a, b int) int { return Wrap(Wrap(a) - Wrap(b)) }

// Mul tells a product's lower half.
func Mul(a, b int) int { return int(product(a, b) & ones) }

// High tells a product's upper half.
func High(a, b int) int { return int(product(a, b) >> size) }

// Not turns all bits.
func Not(a int) int { return Wrap(^a) }

// And tells bits that both have.
func And(a, b int) int { return Wrap(a & b) }

// Or tells bits that one has.
func Or(a, b int) int { return Wrap(a | b) }

// Xor tells bits that just one has.
func Xor(a, b int) int { return Wrap(a ^ b) }

// Shl shifts upwards.
func Shl(a, n int) int { return Wrap(Wrap(a) << count(n)) }

// Shr shifts downwards.
func Shr(a, n int) int { return Wrap(a) >> count(n) }

// Sar shifts downwards with the sign.
func Sar(a, n int) int {
	sign, r := Bit(a, top), Shr(a, n)
	for i := range count(n) {
		r |= sign << (top - i)
	}
	return r
}

// Ror turns downwards.
func Ror(a, n int) int { return Shr(a, n) | Wrap(Wrap(a)<<(size-count(n))) }

// Less tells a mask.
func Less(a, b int) int { return mask(Wrap(a) < Wrap(b)) }

// Same tells a mask.
func Same(a, b int) int { return mask(Wrap(a) == Wrap(b)) }

// Carry tells what a sum carries.
func Carry(a, b int) int { return (Wrap(a) + Wrap(b)) >> size }

// Select tells bits of one or of the other.
func Select(m, a, b int) int {
	r := 0
	for i := range size {
		from := b
		if Bit(m, i) == 1 {
			from = a
		}
		r |= Bit(from, i) << i
	}
	return r
}

// Bit tells a bit.
func Bit(a, i int) int { return Shr(a, i) & 1 }

// Flip turns a bit.
func Flip(a, i int) int { return Xor(a, 1<<count(i)) }

// Bytes tells a word's bytes.
func Bytes(a int) string {
	var b [size / 8]byte
	for i := range len(b) {
		b[i] = byte(Shr(a, 8*i))
	}
	return string(b[:])
}

// Of tells the word of bytes.
func Of(s string) (int, bool) {
	if len(s) != size/8 {
		return 0, false
	}
	r := 0
	for i := range len(s) {
		r |= int(s[i]) << (8 * i)
	}
	return r, true
}
