// Package varint is layer 1: numbers of variable length, as QUIC has them (see shared/doc/01-varint.md).
package varint

import (
	"math/bits"

	"hostler/api"
)

// The greatest numbers whose shortest bytes are 1, 2 and 4; of 8 it is api.MaxVar.
const (
	max1 = 1<<6 - 1
	max2 = 1<<14 - 1
	max4 = 1<<30 - 1
)

// Size tells how many the shortest bytes of n are; 0 if n is above api.MaxVar.
func Size(n uint64) int {
	switch {
	case n <= max1:
		return 1
	case n <= max2:
		return 2
	case n <= max4:
		return 4
	case n <= api.MaxVar:
		return 8
	}
	return 0
}

// Append answers b and behind it the shortest bytes of each number, in bytes of their own; ErrRange if a number is above api.MaxVar.
func Append(b []byte, l ...uint64) ([]byte, api.Errno) {
	more, ok := sizes(l...)
	if !ok {
		return nil, api.ErrRange
	}
	// Always a new list, even where b has room: its owner may go on to write behind b.
	own := make([]byte, 0, len(b)+more)
	own = append(own, b...)
	for _, n := range l {
		own = put(own, n)
	}
	return own, api.OK
}

// sizes tells how many the shortest bytes of all numbers are; false if one is above api.MaxVar.
func sizes(l ...uint64) (sum int, ok bool) {
	for _, n := range l {
		size := Size(n)
		if size == 0 {
			return 0, false
		}
		sum += size
	}
	return sum, true
}

// put appends the shortest bytes of n, which is api.MaxVar at most.
func put(b []byte, n uint64) []byte {
	size := Size(n)
	// Sizes are powers of two: the highest two bits tell which power.
	n |= uint64(bits.TrailingZeros(uint(size))) << (8*size - 2)
	for at := 8*size - 8; at >= 0; at -= 8 {
		b = append(b, byte(n>>at))
	}
	return b
}

// Take answers the number with whose bytes b begins, and how many they are; false if b is cut short.
func Take(b []byte) (n uint64, used int, ok bool) {
	if len(b) == 0 {
		return 0, 0, false
	}
	size := 1 << (b[0] >> 6)
	if len(b) < size {
		return 0, 0, false
	}
	n = uint64(b[0] & max1)
	for _, x := range b[1:size] {
		n = n<<8 | uint64(x)
	}
	return n, size, true
}

// Bytes answers the bytes that stand behind the number of them with which b begins, in bytes of their own, and how many all are; false if b is cut short.
func Bytes(b []byte) (own []byte, used int, ok bool) {
	n, at, ok := Take(b)
	// The number may be too great for an int: it is held against what is left ahead of a conversion.
	if !ok || n > uint64(len(b)-at) {
		return nil, 0, false
	}
	used = at + int(n)
	own = append([]byte{}, b[at:used]...)
	return own, used, true
}
