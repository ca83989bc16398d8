package tests

import (
	"math"
	"testing"

	"loop.example/g01223/impl"
)

// parts returns 1, 1/2, 1/3 and so on, count of them, rounded.
func parts(count int) []float32 {
	list := make([]float32, count)
	for i := range list {
		list[i] = float32(1 / float64(i+1))
	}
	return list
}

func reversed(list []float32) []float32 {
	back := make([]float32, len(list))
	for i, x := range list {
		back[len(list)-1-i] = x
	}
	return back
}

func TestSumsOfFewNumbers(t *testing.T) {
	const one, half, most = 0x3f800000, 0x33800000, 0x7f7fffff // half is half of what follows 1, less 1
	for _, c := range []struct {
		list         []float32
		sum, ofPairs uint32
	}{
		{nil, 0, 0},
		{[]float32{}, 0, 0},
		{listOf(0x80000000), 0, 0x80000000},
		{listOf(0x80000000, 0x80000000), 0, 0x80000000},
		{listOf(0x80000000, 0), 0, 0},
		{listOf(0x7f800001), nanBits, nanBits},
		{[]float32{1, 2, 3.5}, 0x40d00000, 0x40d00000},
		{listOf(one, half, half), one, one},
		{listOf(half, half, one), 0x3f800001, 0x3f800001},
		{listOf(one, half, half, half), one, 0x3f800001},
		{listOf(half, one, half), one, one},
		{listOf(one, half, half, half, half), one, 0x3f800001},
		{listOf(1, 1), 2, 2},
		{listOf(1, 0x807fffff), 0x807ffffe, 0x807ffffe},
		{listOf(most, most, 0xff7fffff, 0xff7fffff), 0x7f800000, nanBits},
		{listOf(0x7f800000, 0xff800000), nanBits, nanBits},
		{listOf(one, nanBits, one), nanBits, nanBits},
		{[]float32{16777216, 1, 1}, 0x4b800000, 0x4b800000},
		{[]float32{1, -1}, 0, 0},
	} {
		sum, ok := impl.SumNumbers(c.list)
		wantNumber(t, "SumNumbers", sum, ok, c.sum)
		sum, ok = impl.SumPairs(c.list)
		wantNumber(t, "SumPairs", sum, ok, c.ofPairs)
	}
}

// The sums were computed by another program.
func TestSumsOfManyNumbers(t *testing.T) {
	for _, c := range []struct {
		count, sum, ofPairs, back, backOfPairs, dot, wide uint32
	}{
		{3, 0x3feaaaab, 0x3feaaaab, 0x3feaaaab, 0x3feaaaab, 0x40300001, 0x40300000},
		{5, 0x40122223, 0x40122222, 0x40122222, 0x40122222, 0x4042d82e, 0x4042d82e},
		{6, 0x401cccce, 0x401ccccd, 0x401ccccd, 0x401ccccd, 0x40499999, 0x4049999a},
		{7, 0x4025f160, 0x4025f160, 0x4025f15f, 0x4025f15f, 0x404f6db8, 0x404f6db7},
		{9, 0x40350dd2, 0x40350dd1, 0x40350dd1, 0x40350dd2, 0x405943c8, 0x405943c8},
		{100, 0x40a5ff00, 0x40a5ff00, 0x40a5fefe, 0x40a5ff00, 0x40a94878, 0x40a9487b},
		{101, 0x40a6501c, 0x40a6501b, 0x40a6501a, 0x40a6501c, 0x40a992f3, 0x40a992ef},
		{255, 0x40c3daa4, 0x40c3daa3, 0x40c3daa3, 0x40c3daa2, 0x40c56262, 0x40c56258},
		{256, 0x40c3faa4, 0x40c3faa3, 0x40c3faa3, 0x40c3faa3, 0x40c58112, 0x40c58111},
	} {
		list := parts(int(c.count))
		back := reversed(list)
		more := reversed(list)
		for i := range more {
			more[i]++
		}
		sum, ok := impl.SumNumbers(list)
		wantNumber(t, "SumNumbers", sum, ok, c.sum)
		sum, ok = impl.SumPairs(list)
		wantNumber(t, "SumPairs", sum, ok, c.ofPairs)
		sum, ok = impl.SumNumbers(back)
		wantNumber(t, "SumNumbers from behind", sum, ok, c.back)
		sum, ok = impl.SumPairs(back)
		wantNumber(t, "SumPairs from behind", sum, ok, c.backOfPairs)
		sum, ok = impl.DotNumbers(list, more)
		wantNumber(t, "DotNumbers", sum, ok, c.dot)
		sum, ok = impl.DotWide(list, more)
		wantNumber(t, "DotWide", sum, ok, c.wide)
	}
}

func TestProducts(t *testing.T) {
	near := at(0x3f800800)   // 1 + 1/4096, whose square is rounded to square
	square := at(0x3f801000) // 1 + 1/2048
	most := at(0x7f7fffff)
	zero := at(0x80000000)
	infinite := at(0x7f800000)
	for _, c := range []struct {
		a, b      []float32
		dot, wide uint32
	}{
		{nil, nil, 0, 0},
		{nil, []float32{}, 0, 0},
		{[]float32{1, 2}, []float32{3, 4}, 0x41300000, 0x41300000},
		{[]float32{zero}, []float32{1}, 0, 0},
		{[]float32{square, near}, []float32{-1, near}, 0, 0x33800000},
		{[]float32{near, square}, []float32{near, -1}, 0, 0x33800000},
		{[]float32{most, most, 1}, []float32{2, -2, 1}, nanBits, 0x3f800000},
		{[]float32{most, 1}, []float32{2, 1}, 0x7f800000, 0x7f800000},
		{[]float32{most}, []float32{-2}, 0xff800000, 0xff800000},
		{[]float32{at(1), at(1)}, []float32{0.5, 0.5}, 0, 1},
		{[]float32{at(0x1a000000)}, []float32{at(0x1a000000)}, 0x00000000, 0x00000000},
		{[]float32{infinite}, []float32{0}, nanBits, nanBits},
		{[]float32{infinite, infinite}, []float32{1, -1}, nanBits, nanBits},
		{[]float32{at(0xff800001)}, []float32{0}, nanBits, nanBits},
		{[]float32{1, at(0x33800000), at(0x33800000)}, []float32{1, 1, 1}, 0x3f800000, 0x3f800001},
		{[]float32{at(0x5a000000), 1, 1, at(0xda000000)}, []float32{1, 1, 1, 1}, 0, 0},
		{[]float32{at(0xda000000), 1, 1, at(0x5a000000)}, []float32{1, 1, 1, 1}, 0, 0x40000000},
	} {
		sum, ok := impl.DotNumbers(c.a, c.b)
		wantNumber(t, "DotNumbers", sum, ok, c.dot)
		sum, ok = impl.DotWide(c.a, c.b)
		wantNumber(t, "DotWide", sum, ok, c.wide)
	}
}

func TestListsBeyondTheLimits(t *testing.T) {
	for _, count := range []int{257, 258, 1000} {
		list := parts(count)
		x, ok := impl.SumNumbers(list)
		wantNoNumber(t, "SumNumbers", x, ok)
		x, ok = impl.SumPairs(list)
		wantNoNumber(t, "SumPairs", x, ok)
		x, ok = impl.DotNumbers(list, list)
		wantNoNumber(t, "DotNumbers", x, ok)
		x, ok = impl.DotWide(list, list)
		wantNoNumber(t, "DotWide", x, ok)
	}
	for _, c := range [][2]int{{0, 1}, {1, 0}, {2, 3}, {3, 2}, {256, 255}, {255, 256}, {256, 257}} {
		a, b := parts(c[0]), parts(c[1])
		x, ok := impl.DotNumbers(a, b)
		wantNoNumber(t, "DotNumbers of other lengths", x, ok)
		x, ok = impl.DotWide(a, b)
		wantNoNumber(t, "DotWide of other lengths", x, ok)
	}
}

// Sums of numbers between which no rounding happens are the same in any order.
func TestSumsOfIntegers(t *testing.T) {
	list := make([]float32, 256)
	sum, squares := 0, 0
	for i := range list {
		n := i*37%256 - 100
		list[i] = float32(n)
		sum += n
		squares += n * n
	}
	x, ok := impl.SumNumbers(list)
	wantNumber(t, "SumNumbers", x, ok, math.Float32bits(float32(sum)))
	x, ok = impl.SumPairs(list)
	wantNumber(t, "SumPairs", x, ok, math.Float32bits(float32(sum)))
	x, ok = impl.DotNumbers(list, list)
	wantNumber(t, "DotNumbers", x, ok, math.Float32bits(float32(squares)))
	x, ok = impl.DotWide(list, list)
	wantNumber(t, "DotWide", x, ok, math.Float32bits(float32(squares)))
}
