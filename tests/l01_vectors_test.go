package tests

import (
	"testing"

	"loop.example/g01223/impl"
)

func vectorAt(x, y, z uint32) impl.Vector {
	return impl.Vector{X: at(x), Y: at(y), Z: at(z)}
}

func bitsOfVector(v impl.Vector) [3]uint32 {
	return [3]uint32{bitsOf(v.X), bitsOf(v.Y), bitsOf(v.Z)}
}

func wantVector(t *testing.T, what string, got impl.Vector, x, y, z uint32) {
	t.Helper()
	if b := bitsOfVector(got); b != [3]uint32{x, y, z} {
		t.Errorf("%s: got %#08x, want %#08x", what, b, [3]uint32{x, y, z})
	}
}

const (
	bitsOne  = 0x3f800000
	bitsHalf = 0x33800000 // half of what follows 1, less 1
	bitsMost = 0x7f7fffff
	bitsInf  = 0x7f800000
	bitsNull = 0x80000000 // -0
)

func TestVectorSums(t *testing.T) {
	a := impl.Vector{X: 3, Y: 4, Z: -0.5}
	b := impl.Vector{X: 1, Y: -2, Z: 8}
	wantVector(t, "AddVectors", impl.AddVectors(a, b), 0x40800000, 0x40000000, 0x40f00000)
	wantVector(t, "LessVectors", impl.LessVectors(a, b), 0x40000000, 0x40c00000, 0xc1080000)
	wantVector(t, "LessVectors", impl.LessVectors(b, a), 0xc0000000, 0xc0c00000, 0x41080000)
	wantVector(t, "ScaleVector", impl.ScaleVector(a, 2), 0x40c00000, 0x41000000, 0xbf800000)
	null := vectorAt(bitsNull, 0, bitsNull)
	wantVector(t, "AddVectors of zeros", impl.AddVectors(null, vectorAt(bitsNull, bitsNull, 0)), bitsNull, 0, 0)
	wantVector(t, "LessVectors of zeros", impl.LessVectors(null, vectorAt(0, 0, bitsNull)), bitsNull, 0, 0)
	wantVector(t, "ScaleVector by -0", impl.ScaleVector(impl.Vector{X: 1, Y: -1}, at(bitsNull)), bitsNull, 0, bitsNull)
	great := vectorAt(bitsMost, bitsInf, nanBits)
	wantVector(t, "AddVectors of great numbers", impl.AddVectors(great, great), bitsInf, bitsInf, nanBits)
	wantVector(t, "LessVectors of great numbers", impl.LessVectors(great, great), 0, nanBits, nanBits)
	wantVector(t, "ScaleVector of great numbers", impl.ScaleVector(great, 0), 0, nanBits, nanBits)
	small := vectorAt(1, 0x80000001, 0x00800000)
	wantVector(t, "ScaleVector of subnormal numbers", impl.ScaleVector(small, 0.5), 0, bitsNull, 0x00400000)
	wantVector(t, "ScaleVector rounds ties to even", impl.ScaleVector(vectorAt(1, 3, 5), 0.5), 0, 2, 2)
	wantVector(t, "AddVectors of subnormal numbers", impl.AddVectors(small, small), 2, 0x80000002, 0x01000000)
}

func TestInnerOf(t *testing.T) {
	ones := impl.Vector{X: 1, Y: 1, Z: 1}
	near := at(0x3f800800)   // 1 + 1/4096, whose square is rounded to square
	square := at(0x3f801000) // 1 + 1/2048
	for _, c := range []struct {
		a, b impl.Vector
		want uint32
	}{
		{impl.Vector{X: 3, Y: 4}, impl.Vector{X: 3, Y: 4}, 0x41c80000},
		{impl.Vector{X: 1, Y: 2, Z: 3}, impl.Vector{X: 5, Y: 7, Z: -11}, 0xc1600000},
		{vectorAt(bitsOne, bitsHalf, bitsHalf), ones, bitsOne},
		{vectorAt(bitsHalf, bitsHalf, bitsOne), ones, 0x3f800001},
		{vectorAt(bitsHalf, bitsOne, bitsHalf), ones, bitsOne},
		{vectorAt(bitsNull, bitsNull, bitsNull), ones, bitsNull},
		{vectorAt(bitsNull, 0, bitsNull), ones, 0},
		{impl.Vector{X: near, Y: square}, impl.Vector{X: near, Y: -1}, 0},
		{impl.Vector{X: square, Y: near}, impl.Vector{X: -1, Y: near}, 0},
		{impl.Vector{X: square, Z: near}, impl.Vector{X: -1, Z: near}, 0},
		{vectorAt(bitsMost, bitsMost, 0), impl.Vector{X: 2, Y: -2}, nanBits},
		{vectorAt(bitsMost, bitsOne, 0), impl.Vector{X: 2, Y: -2}, bitsInf},
		{vectorAt(bitsInf, 0, 0), impl.Vector{}, nanBits},
		{vectorAt(0, 0, nanBits), impl.Vector{}, nanBits},
		{vectorAt(1, 1, 1), vectorAt(1, 1, 1), 0},
	} {
		wantBits(t, "InnerOf", impl.InnerOf(c.a, c.b), c.want)
	}
}

func TestCrossOf(t *testing.T) {
	x, y, z := impl.Vector{X: 1}, impl.Vector{Y: 1}, impl.Vector{Z: 1}
	wantVector(t, "CrossOf x and y", impl.CrossOf(x, y), 0, 0, bitsOne)
	wantVector(t, "CrossOf y and z", impl.CrossOf(y, z), bitsOne, 0, 0)
	wantVector(t, "CrossOf z and x", impl.CrossOf(z, x), 0, bitsOne, 0)
	wantVector(t, "CrossOf y and x", impl.CrossOf(y, x), 0, 0, 0xbf800000)
	a := impl.Vector{X: 2, Y: 3, Z: 5}
	b := impl.Vector{X: 7, Y: 11, Z: 13}
	wantVector(t, "CrossOf", impl.CrossOf(a, b), 0xc1800000, 0x41100000, 0x3f800000)
	odd := impl.Vector{X: at(0x3f800801), Y: at(0x3fb504f3), Z: at(0x402df854)}
	wantVector(t, "CrossOf a vector and itself", impl.CrossOf(odd, odd), 0, 0, 0)
	wantVector(t, "CrossOf zeros", impl.CrossOf(vectorAt(bitsNull, 0, 0), impl.Vector{X: 1, Y: 1, Z: 1}), 0, 0, bitsNull)
	wantVector(t, "CrossOf great numbers", impl.CrossOf(vectorAt(bitsMost, bitsMost, 0), impl.Vector{X: 2, Y: 4, Z: 2}), bitsInf, 0xff800000, nanBits)
	wantVector(t, "CrossOf a not-a-number", impl.CrossOf(vectorAt(nanBits, 0, 0), impl.Vector{}), 0, nanBits, nanBits)
}

func TestLongOf(t *testing.T) {
	for _, c := range []struct {
		v    impl.Vector
		want uint32
	}{
		{impl.Vector{X: 3, Y: 4}, 0x40a00000},
		{impl.Vector{X: -3, Z: -4}, 0x40a00000},
		{impl.Vector{X: 1, Y: 1, Z: 1}, 0x3fddb3d7},
		{impl.Vector{}, 0},
		{vectorAt(bitsNull, bitsNull, bitsNull), 0},
		{vectorAt(0x7149f2ca, 0, 0), bitsInf},
		{vectorAt(0x0da24260, 0, 0), 0},
		{vectorAt(0, 0xff800000, 0), bitsInf},
		{vectorAt(0, 0, 0xffc00000), nanBits},
	} {
		wantBits(t, "LongOf", impl.LongOf(c.v), c.want)
	}
}

func TestBetweenVectors(t *testing.T) {
	a := impl.Vector{X: 1}
	b := impl.Vector{X: 3, Y: 4, Z: -8}
	wantVector(t, "BetweenVectors half way", impl.BetweenVectors(a, b, 0.5), 0x40000000, 0x40000000, 0xc0800000)
	wantVector(t, "BetweenVectors at the first", impl.BetweenVectors(a, b, 0), bitsOne, 0, 0)
	wantVector(t, "BetweenVectors at the second", impl.BetweenVectors(a, b, 1), 0x40400000, 0x40800000, 0xc1000000)
	wantVector(t, "BetweenVectors beyond", impl.BetweenVectors(a, b, 2), 0x40a00000, 0x41000000, 0xc1800000)
	wantVector(t, "BetweenVectors before", impl.BetweenVectors(a, b, -1), 0xbf800000, 0xc0800000, 0x41000000)
	wantVector(t, "BetweenVectors with a lost 1", impl.BetweenVectors(impl.Vector{X: 1e8}, a, 1), 0, 0, 0)
	near := at(0x3f800800)
	from := impl.Vector{X: -at(0x3f801000)}
	to := impl.Vector{X: from.X + near}
	wantVector(t, "BetweenVectors rounds products", impl.BetweenVectors(from, to, near), 0, 0, 0)
	wantVector(t, "BetweenVectors of great numbers", impl.BetweenVectors(vectorAt(bitsMost, bitsInf, nanBits), vectorAt(0xff7fffff, bitsInf, 0), 0), nanBits, nanBits, nanBits)
}

func TestSameVector(t *testing.T) {
	base := [3]uint32{bitsOne, bitsNull, nanBits}
	v := vectorAt(base[0], base[1], base[2])
	want(t, "SameVector of itself", impl.SameVector(v, v), true)
	want(t, "SameVector with other bits of not-a-numbers", impl.SameVector(v, vectorAt(bitsOne, bitsNull, 0xff800001)), true)
	want(t, "SameVector of zeros", impl.SameVector(impl.Vector{}, impl.Vector{}), true)
	for i := range 3 {
		other := base
		other[i] = 0
		w := vectorAt(other[0], other[1], other[2])
		want(t, "SameVector", impl.SameVector(v, w), false)
		want(t, "SameVector", impl.SameVector(w, v), false)
	}
}
