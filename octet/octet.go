// Package octet writes numbers and texts as bytes, reads them back, and seals frames by a sum. It is layer 1: see shared/doc/01-octet.md.
package octet

import (
	"catenary/api"
)

// maxText is how many bytes a text has at most: what a number of the size 2 can count.
const maxText = 1<<16 - 1

// Put writes numbers of a size (1, 2 or 4 bytes) behind b.
func Put(b []byte, size int, l ...int) ([]byte, api.Errno) {
	if !isSize(size) {
		return nil, api.ErrArg
	}
	for _, n := range l {
		if !fits(n, size) {
			return nil, api.ErrRange
		}
	}
	out := copyOf(b, size*len(l))
	for _, n := range l {
		out = digits(out, size, n)
	}
	return out, api.OK
}

// Text writes s as a text behind b.
func Text(b, s []byte) ([]byte, api.Errno) {
	if len(s) > maxText {
		return nil, api.ErrLimit
	}
	out := digits(copyOf(b, 2+len(s)), 2, len(s))
	return append(out, s...), api.OK
}

// isSize tells whether numbers may have that size.
func isSize(size int) bool {
	return size == 1 || size == 2 || size == 4
}

// fits tells whether n is a number of the size.
func fits(n, size int) bool {
	// The shift keeps the sign: a number below 0 leaves -1 behind, one that is too great what is too much of it.
	return n>>(8*size) == 0
}

// digits puts the digits of n in base 256 behind b, the highest first. It writes into b's spare room, so b is one of this package's own.
func digits(b []byte, size, n int) []byte {
	for shift := 8 * (size - 1); shift >= 0; shift -= 8 {
		b = append(b, byte(n>>shift))
	}
	return b
}

// number is what digits in base 256 say.
func number(b []byte) int {
	n := 0
	for _, digit := range b {
		n = n<<8 | int(digit)
	}
	return n
}

// copyOf is b in new memory, with room for more bytes: who called may write to b and its spare room later.
func copyOf(b []byte, more int) []byte {
	return append(make([]byte, 0, len(b)+more), b...)
}
