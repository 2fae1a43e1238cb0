// Package word is layer 1: see shared/doc/01-word.md.
package word

import "ballast/api"

const (
	wordBits = 64
	byteBits = 8
)

// isField says whether a word has a field from a bit on, with a width.
func isField(from, width int) bool {
	// The width is compared with what is left, because from+width may overflow.
	return from >= 0 && from < wordBits && width >= 1 && width <= wordBits-from
}

// greatest returns the greatest value of a field with a width.
func greatest(width int) uint64 {
	// With the width 64 nothing is left of the shifted bit, and 0-1 wraps around to all bits.
	return uint64(1)<<width - 1
}

// Get returns the field of a word from a bit on, with a width.
func Get(w uint64, from, width int) (uint64, api.Errno) {
	if !isField(from, width) {
		return 0, api.ErrArg
	}
	return w >> from & greatest(width), api.OK
}

// Set returns a word with another field.
func Set(w uint64, from, width int, v uint64) (uint64, api.Errno) {
	if !isField(from, width) {
		return 0, api.ErrArg
	}
	if v > greatest(width) {
		return 0, api.ErrRange
	}
	return w&^(greatest(width)<<from) | v<<from, api.OK
}

// Bytes returns the eight bytes of a word, the lowest one first.
func Bytes(w uint64) [8]byte {
	var b [8]byte
	for i := range b {
		b[i] = byte(w >> (byteBits * i))
	}
	return b
}

// Of returns the word of eight bytes.
func Of(b [8]byte) uint64 {
	w := uint64(0)
	for i, x := range b {
		w |= uint64(x) << (byteBits * i)
	}
	return w
}
