// Package wire is layer 1: it encodes integers and strings as bytes, decodes them, and computes checksums. See shared/doc/01-wire.md.
package wire

import (
	"iter"
	"strings"

	"copydesk/api"
)

const (
	groupBits = 7
	groupMask = 1<<groupBits - 1
	moreBit   = 1 << groupBits
	// maxGroups is enough for the largest z, which has 63 bits: whatever is longer is too large or has a superfluous group.
	maxGroups = 9
)

// PutInt returns the encoding of n, or ErrWire if n is not from -MaxInt to MaxInt.
func PutInt(n int) (string, api.Errno) {
	if !encodable(n) {
		return "", api.ErrWire
	}
	var b strings.Builder
	for group := range groups(fold(n)) {
		b.WriteByte(group)
	}
	return b.String(), api.OK
}

// Int decodes the integer whose encoding begins at offset at of s, and returns it and the offset after the encoding.
func Int(s string, at int) (int, int, api.Errno) {
	if at < 0 || at > len(s) {
		return 0, 0, api.ErrArg
	}
	z, size := joined(s[at:])
	n := unfold(z)
	// Nine groups can hold one z too many: that of -MaxInt - 1.
	if size == 0 || !encodable(n) {
		return 0, 0, api.ErrWire
	}
	return n, at + size, api.OK
}

// PutString returns the encoding of s, or ErrWire if s has more than MaxString bytes.
func PutString(s string) (string, api.Errno) {
	if len(s) > api.MaxString {
		return "", api.ErrWire
	}
	length, err := PutInt(len(s))
	return length + s, err
}

// String decodes the string whose encoding begins at offset at of s, and returns it and the offset after the encoding.
func String(s string, at int) (string, int, api.Errno) {
	n, start, err := Int(s, at)
	if err != api.OK {
		return "", 0, err
	}
	if n < 0 || n > api.MaxString || n > len(s)-start {
		return "", 0, api.ErrWire
	}
	end := start + n
	// A clone, so that a short result does not keep all of s alive.
	return strings.Clone(s[start:end]), end, api.OK
}

// encodable reports whether n has an encoding.
func encodable(n int) bool {
	return -api.MaxInt <= n && n <= api.MaxInt
}

// fold returns the z of an encodable n: the sign becomes the lowest bit, so that numbers near 0 have short encodings.
func fold(n int) int {
	if n < 0 {
		return -2*n - 1
	}
	return 2 * n
}

// unfold returns the n whose z is given. It halves first: z + 1 could overflow.
func unfold(z int) int {
	if z%2 == 1 {
		return -(z / 2) - 1
	}
	return z / 2
}

// groups produces the bytes of the encoding of z, the least significant group first.
func groups(z int) iter.Seq[byte] {
	return func(yield func(byte) bool) {
		rest := z
		for rest > groupMask {
			if !yield(byte(rest&groupMask | moreBit)) {
				return
			}
			rest >>= groupBits
		}
		yield(byte(rest))
	}
}

// joined returns the z whose groups are at the beginning of s, and the number of groups; this number is 0 if there is no such z.
func joined(s string) (int, int) {
	z := 0
	for i := 0; i < len(s) && i < maxGroups; i++ {
		b := int(s[i])
		z |= (b & groupMask) << (groupBits * i)
		if b >= moreBit {
			continue
		}
		if b == 0 && i > 0 {
			// The last group is superfluous.
			return 0, 0
		}
		return z, i + 1
	}
	return 0, 0
}
