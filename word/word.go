// Package word extracts bit fields from words of 64 bits, and combines them:
// layer 1 of the document, chapter doc/01-word.md.
package word

import (
	"math/bits"

	"roundelay/api"
)

// width is the number of bits of a word.
const width = 64

// Field is a field of a word: its number of bits, and the number in it.
type Field struct {
	Size int
	V    uint64
}

// Get returns the number in the field of size bits from the bit at on.
func Get(w uint64, at, size int) (uint64, api.Errno) {
	if !exists(at, size) {
		return 0, api.ErrArg
	}
	return w >> at & ones(size), api.OK
}

// Put returns w with v in the field of size bits from the bit at on.
func Put(w uint64, at, size int, v uint64) (uint64, api.Errno) {
	if !exists(at, size) {
		return 0, api.ErrArg
	}
	if bits.Len64(v) > size {
		return 0, api.ErrRange
	}
	return w&^(ones(size)<<at) | v<<at, api.OK
}

// Pack places fields one above the other, the first one from bit 0 on.
func Pack(l ...Field) (uint64, api.Errno) {
	var w uint64
	at := 0
	for _, f := range l {
		next, e := Put(w, at, f.Size, f.V)
		if e != api.OK {
			return 0, e
		}
		w = next
		at += f.Size
	}
	return w, api.OK
}

// Unpack returns the numbers in the fields that Pack places by these sizes.
func Unpack(w uint64, sizes ...int) ([]uint64, api.Errno) {
	// The list grows field by field: of any number of sizes at most width fit.
	var l []uint64
	at := 0
	for _, size := range sizes {
		v, e := Get(w, at, size)
		if e != api.OK {
			return nil, e
		}
		l = append(l, v)
		at += size
	}
	return l, api.OK
}

// exists tells whether a word has a field of size bits from the bit at on.
func exists(at, size int) bool {
	// at + size could leave the range of int; width - size cannot, as size is positive.
	return at >= 0 && size >= 1 && at <= width-size
}

// ones returns the word whose size lowest bits are 1; size is that of a field.
func ones(size int) uint64 {
	return ^uint64(0) >> (width - size)
}
