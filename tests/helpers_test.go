package tests

import (
	"math"
	"testing"
)

const nanBits = 0x7fc00000

// at returns the number with these bits, without the functions under test.
func at(bits uint32) float32 {
	return math.Float32frombits(bits)
}

// bitsOf returns the bits of x, and nanBits for each not-a-number.
func bitsOf(x float32) uint32 {
	if x != x {
		return nanBits
	}
	return math.Float32bits(x)
}

func wantBits(t *testing.T, what string, got float32, want uint32) {
	t.Helper()
	if bitsOf(got) != want {
		t.Errorf("%s: got %#08x (%v), want %#08x (%v)", what, bitsOf(got), got, want, at(want))
	}
}

func want[T comparable](t *testing.T, what string, got, wanted T) {
	t.Helper()
	if got != wanted {
		t.Errorf("%s: got %v, want %v", what, got, wanted)
	}
}

// wantNumber checks a result of a function that succeeds.
func wantNumber(t *testing.T, what string, got float32, ok bool, bits uint32) {
	t.Helper()
	want(t, what+" succeeds", ok, true)
	wantBits(t, what, got, bits)
}

// wantNoNumber checks a result of a function that fails: it is +0.
func wantNoNumber(t *testing.T, what string, got float32, ok bool) {
	t.Helper()
	want(t, what+" succeeds", ok, false)
	wantBits(t, what, got, 0)
}

// listOf returns the numbers with these bits.
func listOf(bits ...uint32) []float32 {
	list := make([]float32, len(bits))
	for i, b := range bits {
		list[i] = at(b)
	}
	return list
}

// bitsOfList returns the bits of numbers.
func bitsOfList(list []float32) []uint32 {
	bits := make([]uint32, len(list))
	for i, x := range list {
		bits[i] = bitsOf(x)
	}
	return bits
}

// specialBits are those of both zeros, the ends of the ranges of subnormal and
// of normal numbers, infinities, not-a-numbers, and a few ordinary numbers.
var specialBits = []uint32{
	0x00000000, 0x80000000, 0x00000001, 0x80000001, 0x00000002, 0x80000002,
	0x007fffff, 0x807fffff, 0x00800000, 0x80800000, 0x00800001, 0x80800001,
	0x7f7fffff, 0xff7fffff, 0x7f800000, 0xff800000,
	0x7fc00000, 0xffc00000, 0x7f800001, 0xff800001, 0x7fffffff, 0xffffffff, 0x7fa55555,
	0x3f800000, 0xbf800000, 0x3f7fffff, 0x3f800001, 0x3e800000, 0x3f000000, 0xbf000000,
	0x40000000, 0xc0000000, 0x43480000, 0xc3480000, 0x43480001, 0xc3480001,
	0x59800000, 0xd9800000, 0x597fffff, 0x7149f2ca, 0x0da24260,
}

// wideBits returns bits that are spread evenly over all numbers, for i from 0
// to 65535.
func wideBits(i int) uint32 {
	return uint32(i) * 65537
}
