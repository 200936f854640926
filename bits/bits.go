// Package bits is layer 1: words of some bytes.
package bits

import (
	"iter"
	mathbits "math/bits"
)

// masks are the words all of whose bits are 1, by width less 1.
var masks = [8]uint64{
	0xff, 0xffff, 0xffffff, 0xffffffff,
	0xffffffffff, 0xffffffffffff, 0xffffffffffffff, 0xffffffffffffffff,
}

// held brings a width to one from 1 to 8.
func held(width int) int { return max(1, min(width, len(masks))) }

// Mask answers the word all whose bits of that width are 1, no other one.
func Mask(width int) uint64 { return masks[held(width)-1] }

// Cut answers x cut to the width.
func Cut(x uint64, width int) uint64 { return x & Mask(width) }

// Sign tells whether the highest bit of the width is 1.
func Sign(x uint64, width int) bool { return x>>(8*held(width)-1)&1 == 1 }

// Ext answers x cut, with its sign through all 64 bits.
func Ext(x uint64, width int) uint64 {
	if Sign(x, width) {
		return x | ^Mask(width)
	}
	return Cut(x, width)
}

// Parity tells whether the ones of the lowest byte are even in number.
func Parity(x uint64) bool { return mathbits.OnesCount8(byte(x))&1 == 0 }

// each yields the bytes of x, the lowest one first, by place.
func each(x uint64, width int) iter.Seq2[int, byte] {
	return func(yield func(int, byte) bool) {
		for i := range held(width) {
			if !yield(i, byte(x>>(8*i))) {
				return
			}
		}
	}
}

// Bytes answers the bytes of x, cut, the lowest one first.
func Bytes(x uint64, width int) []byte {
	b := make([]byte, held(width))
	for i, c := range each(x, width) {
		b[i] = c
	}
	return b
}

// Number answers the word of the first 8 of these bytes, the lowest one first.
func Number(b []byte) uint64 {
	x := uint64(0)
	for i, c := range b[:min(len(b), len(masks))] {
		x |= uint64(c) << (8 * i)
	}
	return x
}

// told works with two words, cut, and one bit: it cuts what comes of them, and tells whether it left the width, and whether its sign is one that neither word asks for.
func told(a, b uint64, bit bool, width int, work func(a, b, bit uint64) (uint64, uint64), alike bool) (r uint64, out, over bool) {
	a, b = Cut(a, width), Cut(b, width)
	one := uint64(0)
	if bit {
		one = 1
	}
	whole, left := work(a, b, one)
	r = Cut(whole, width)
	out = left == 1 || whole != r
	over = (Sign(a, width) == Sign(b, width)) == alike && Sign(r, width) != Sign(a, width)
	return r, out, over
}

// Add answers the sum of a, b and the carry, cut, whether it is more than the width holds, and whether it runs over as signed numbers.
func Add(a, b uint64, carry bool, width int) (sum uint64, out, over bool) {
	return told(a, b, carry, width, func(a, b, bit uint64) (uint64, uint64) {
		return mathbits.Add64(a, b, bit)
	}, true)
}

// Sub answers a less b, less the borrow, cut, whether b and the borrow are more than a, and whether it runs over as signed numbers.
func Sub(a, b uint64, borrow bool, width int) (rest uint64, out, over bool) {
	return told(a, b, borrow, width, func(a, b, bit uint64) (uint64, uint64) {
		return mathbits.Sub64(a, b, bit)
	}, false)
}

// Turn answers x, cut, turned left by n bits; by fewer than none: turned right.
func Turn(x uint64, n, width int) uint64 {
	many := 8 * held(width)
	n %= many
	if n < 0 {
		n += many
	}
	x = Cut(x, width)
	return Cut(x<<n|x>>(many-n), width)
}
