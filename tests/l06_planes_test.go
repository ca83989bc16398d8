package tests

import (
	"fmt"
	"math"
	"testing"

	"loop.example/g01223/impl"
)

// Nearly 1: the square of aboveOne is rounded to squareOfIt.
const (
	aboveOne   = 0x3f800800
	squareOfIt = 0x3f801000
)

func TestHeightAt(t *testing.T) {
	for _, c := range []struct {
		a, b, c, x, y, wanted uint32
	}{
		{bitsOne, bitsTwo, bitsThree, bitsOne, bitsOne, 0x40c00000},
		{bitsTwo, bitsThree, bitsOne, bitsFour, bitsHole, 0x40c00000},
		{0, 0, bitsThree, bitsMost, bitsMost, bitsThree},
		// Sums go from left to right.
		{bitsWhole, bitsOne, bitsOne, bitsOne, bitsOne, bitsWhole},
		{bitsOne, bitsWhole, bitsOne, bitsOne, bitsOne, bitsWhole},
		{bitsOne, bitsOne, bitsWhole, bitsOne, bitsOne, 0x4b800001},
		// Products are rounded before they are added.
		{aboveOne, bitsHole, 0, aboveOne, squareOfIt, 0},
		{bitsHole, aboveOne, 0, squareOfIt, aboveOne, 0},
		{aboveOne, 0, 0xbf801000, aboveOne, 0, 0},
		// A sum begins with its first product.
		{bitsNull, bitsNull, bitsNull, bitsOne, bitsOne, bitsNull},
		{0, bitsNull, bitsNull, bitsHole, bitsOne, bitsNull},
		{bitsNull, bitsNull, 0, bitsOne, bitsOne, 0},
		{bitsMost, 0, 0, bitsTwo, 0, bitsInf},
		{bitsInf, bitsOne, bitsOne, bitsOne, bitsOne, bitsInf},
		{bitsInf, 0, bitsLess, bitsOne, bitsOne, nanBits},
		{0, 0, bitsOne, bitsInf, bitsOne, nanBits},
		{0, 0, bitsOne, bitsOne, nanBits, nanBits},
		{0, 0, 0xff800001, bitsOne, bitsOne, nanBits},
	} {
		p := planeAt(c.a, c.b, c.c)
		wantBits(t, fmt.Sprint("HeightAt ", p, " over ", at(c.x), ", ", at(c.y)), impl.HeightAt(p, at(c.x), at(c.y)), c.wanted)
	}
}

func TestPlaneThrough(t *testing.T) {
	v := vectorAt
	for _, c := range []struct {
		what    string
		a, b, c impl.Vector
		wanted  [3]uint32
	}{
		{"the given points", impl.Vector{Z: 1}, impl.Vector{X: 1, Z: 2}, impl.Vector{Y: 1, Z: 1}, [3]uint32{bitsOne, 0, bitsOne}},
		{"points at the origin", impl.Vector{}, impl.Vector{X: 2, Z: 4}, impl.Vector{Y: 2, Z: -2}, [3]uint32{bitsTwo, bitsHole, 0}},
		{"points elsewhere", impl.Vector{X: 1, Y: 2, Z: 3}, impl.Vector{X: 3, Y: 3, Z: 8}, impl.Vector{X: 2, Y: 5, Z: 8}, [3]uint32{bitsTwo, bitsOne, bitsHole}},
		{"points in the other order", impl.Vector{X: 1, Y: 2, Z: 3}, impl.Vector{X: 2, Y: 5, Z: 8}, impl.Vector{X: 3, Y: 3, Z: 8}, [3]uint32{bitsTwo, bitsOne, bitsHole}},
		// 64-bit numbers, and C in 32-bit ones.
		{"told points", v(0xc0c3d197, 0xc062ebce, 0x400866f7), v(0xbf383197, 0xc03ab0b2, 0x40e32f9c), v(0xc0cf1836, 0xbf405167, 0x40d43c67), [3]uint32{0x3f38d311, 0x3fd9d458, 0x414954d6}},
		{"more told points", v(0xc0f5bff5, 0x409d953a, 0xbfa782ec), v(0x3fb99f3e, 0xbf880f63, 0xbff0875c), v(0x3eb3e1b6, 0x3ec165be, 0xc0d1a5f6), [3]uint32{0xc08c2c54, 0xc0d2b137, 0xc021a1f0}},
		{"other told points", v(0x3f957d18, 0xc08d2e1e, 0x3fa91c85), v(0x3e9de53a, 0x4068be38, 0x3f50a907), v(0xc0a32887, 0xc05bca14, 0xc0b994ad), [3]uint32{0x3f92a187, 0x3d7382bb, 0x3e7b7f46}},
		{"points nearly in a line", impl.Vector{}, v(0x3f800001, bitsOne, bitsOne), v(bitsOne, 0x3f7ffffe, bitsOne), [3]uint32{0x4b000000, 0xcb000000, 0}},
		{"subnormal points", impl.Vector{}, v(1, 0, 2), v(0, 1, 0x80000003), [3]uint32{bitsTwo, 0xc0400000, 0}},
		{"great points", impl.Vector{}, v(bitsMost, 0, bitsMost), v(0, bitsMost, 0xff7fffff), [3]uint32{bitsOne, bitsHole, 0}},
		{"points from one end to the other", v(0xff7fffff, 0, bitsMost), impl.Vector{}, v(0xff7fffff, bitsOne, bitsMost), [3]uint32{bitsHole, 0, 0}},
		{"points at -0", v(0, 0, bitsNull), v(bitsOne, 0, 0), v(0, bitsOne, 0), [3]uint32{0, 0, bitsNull}},
	} {
		p, ok := impl.PlaneThrough(c.a, c.b, c.c)
		wantPlane(t, "PlaneThrough "+c.what, p, ok, c.wanted[0], c.wanted[1], c.wanted[2])
	}
}

func TestPlaneThroughPointsWithoutOne(t *testing.T) {
	a, b, c := impl.Vector{X: 1, Y: 2, Z: 3}, impl.Vector{X: 3, Y: 3, Z: 8}, impl.Vector{X: 2, Y: 5, Z: 8}
	great := at(0x7149f2ca) // 10 to the power of 30, nearly
	for what, three := range map[string][3]impl.Vector{
		"three times the same": {a, a, a},
		"twice the first":      {a, a, c},
		"the first one again":  {a, b, a},
		"twice the last":       {a, b, b},
		"zeros of both signs":  {{}, vectorAt(bitsNull, bitsNull, bitsNull), c},
		"one above the other":  {a, {X: 1, Y: 2, Z: 9}, c},
		"in a line":            {{}, {X: 1, Y: 2, Z: 3}, {X: 2, Y: 4, Z: 6}},
		"in a line, but for Z": {{}, {X: 1, Y: 2, Z: 3}, {X: 2, Y: 4, Z: 7}},
		"along x":              {{}, {X: 1}, {X: 2}},
		"along y":              {{Y: 1}, {Y: 7, Z: 2}, {Y: 3}},
		"steep along x":        {{}, {X: 1e-30, Z: great}, {Y: 1}},
		"steep along y":        {{}, {X: 1}, {Y: 1e-30, Z: great}},
		"high above":           {{X: 1e20}, {X: 1.0001e20, Z: 1e36}, {X: 1e20, Y: 1}},
		"far below along y":    {{Y: -1e20}, {X: 1, Y: -1e20}, {Y: -1.0001e20, Z: 1e36}},
		"too high":             {vectorAt(bitsMost, 0, bitsMost), vectorAt(0, 0, 0xff7fffff), {Y: 1}},
	} {
		p, ok := impl.PlaneThrough(three[0], three[1], three[2])
		wantNoPlane(t, "PlaneThrough points "+what, p, ok)
	}
	for _, bits := range notFinite {
		for k := range 9 {
			list := []float32{a.X, a.Y, a.Z, b.X, b.Y, b.Z, c.X, c.Y, c.Z}
			list[k] = at(bits)
			p, ok := impl.PlaneThrough(impl.Vector{X: list[0], Y: list[1], Z: list[2]}, impl.Vector{X: list[3], Y: list[4], Z: list[5]}, impl.Vector{X: list[6], Y: list[7], Z: list[8]})
			wantNoPlane(t, fmt.Sprintf("PlaneThrough points with %08x as the number %d", bits, k), p, ok)
		}
		p := impl.Vector{X: at(bits), Y: at(bits), Z: at(bits)}
		plane, ok := impl.PlaneThrough(p, p, p)
		wantNoPlane(t, "PlaneThrough one point that is not finite", plane, ok)
	}
}

// A plane through points has their heights, nearly.
func TestPlanesGoThroughTheirPoints(t *testing.T) {
	for _, size := range sizes() {
		points := madeScene(patchyEven, size[0], size[1]).points[1]
		for i, a := range points {
			b, c := points[(i+1)%len(points)], points[(i+3)%len(points)]
			p, ok := impl.PlaneThrough(a, b, c)
			e := (b.X-a.X)*(c.Y-a.Y) - (b.Y-a.Y)*(c.X-a.X)
			want(t, fmt.Sprint("PlaneThrough ", a, b, c, " succeeds"), ok, e != 0)
			if !ok {
				continue
			}
			for _, v := range []impl.Vector{a, b, c} {
				scale := math.Abs(float64(p.A*v.X)) + math.Abs(float64(p.B*v.Y)) + math.Abs(float64(p.C)) + 1
				wantNear(t, "HeightAt a point of PlaneThrough", float64(impl.HeightAt(p, v.X, v.Y)), float64(v.Z), 1e-6*scale)
			}
		}
	}
}

// vectorsOf returns the points with these coordinates.
func vectorsOf(numbers ...float32) []impl.Vector {
	var list []impl.Vector
	for i := 0; i < len(numbers); i += 3 {
		list = append(list, impl.Vector{X: numbers[i], Y: numbers[i+1], Z: numbers[i+2]})
	}
	return list
}

// gridOf returns count points of a grid 16 wide with the heights of a plane.
func gridOf(count int, p impl.Plane) []impl.Vector {
	var list []impl.Vector
	for i := range count {
		x, y := float32(i%16), float32(i/16)
		list = append(list, impl.Vector{X: x, Y: y, Z: p.A*x + p.B*y + p.C})
	}
	return list
}

func TestFitPlane(t *testing.T) {
	bits := func(list ...uint32) []impl.Vector { return vectorsOf(listOf(list...)...) }
	for _, c := range []struct {
		what   string
		points []impl.Vector
		wanted [3]uint32
	}{
		{"the given points", vectorsOf(0, 0, 1, 2, 0, 1, 0, 2, 1, 2, 2, 1), [3]uint32{0, 0, bitsOne}},
		{"four points that are in no plane", vectorsOf(0, 0, 0, 2, 0, 0, 0, 2, 0, 2, 2, 4), [3]uint32{bitsOne, bitsOne, bitsHole}},
		{"three points", vectorsOf(0, 0, 1, 3, 0, 7, 0, 3, -2), [3]uint32{bitsTwo, bitsHole, bitsOne}},
		{"the greatest number of points", gridOf(256, impl.Plane{A: 2, B: -3, C: 4}), [3]uint32{bitsTwo, 0xc0400000, bitsFour}},
		// 64-bit numbers, from which C is made before they are narrowed.
		{"told points", bits(0xc090c76f, 0x3fa245e9, 0x4012757a, 0x3faedb90, 0x40421b06, 0xc0aa9b84, 0xc0d5eaa9, 0xc0cbcc27, 0xc04ec484, 0x3e4e6331, 0xbf2dfc70, 0xbfa9e3d5), [3]uint32{0xbf518902, 0x3f1ee606, 0xc05c9891}},
		{"more told points", bits(0xc0dc9543, 0xbffd35aa, 0x3fd65ba5, 0xbf9a7377, 0x3f26240f, 0x40f6503b, 0xbee77aa4, 0x4029593e, 0x3f967742, 0x3e44ae27, 0xc0777a99, 0xc0a7130c, 0xc06be6c7, 0xc0e3950b, 0xbfbab6b1), [3]uint32{0xbf160878, 0x3f601c0b, 0x3f86d199}},
		{"other told points", bits(0x40b3bdf1, 0x40be0a6c, 0xc0a57f74, 0x40520d81, 0x40b62a77, 0xc0f2de62, 0x409aafdb, 0x3edc4218, 0x4089fc3d, 0xc0ffac08, 0x3f5b9992, 0x3fed8416, 0x4050295d, 0x40b899e5, 0x405d2e46, 0xc0ef6d90, 0xc07fd353, 0xc01fcf6b), [3]uint32{0x3e170eb5, 0xbefc6347, 0x3e6c2486}},
		{"points at -0, of which sums begin with +0", bits(0, 0, bitsNull, bitsOne, 0, bitsNull, 0, bitsOne, bitsNull), [3]uint32{0, 0, 0}},
		{"subnormal points", bits(0, 0, 0, 2, 0, 4, 0, 2, 0, 2, 2, 4), [3]uint32{bitsTwo, 0, 0}},
		{"great points", bits(bitsMost, bitsMost, bitsMost, 0xff7fffff, bitsMost, 0xff7fffff, bitsMost, 0xff7fffff, bitsMost, 0xff7fffff, 0xff7fffff, 0xff7fffff), [3]uint32{bitsOne, 0, 0}},
	} {
		p, ok := impl.FitPlane(c.points)
		wantPlane(t, "FitPlane of "+c.what, p, ok, c.wanted[0], c.wanted[1], c.wanted[2])
	}
}

func TestFitPlaneOfPointsWithoutOne(t *testing.T) {
	great := at(0x7149f2ca)
	for what, points := range map[string][]impl.Vector{
		"no points":              nil,
		"one point":              vectorsOf(1, 2, 3),
		"two points":             vectorsOf(0, 0, 1, 2, 0, 1),
		"two points not at 0":    vectorsOf(listOf(0x40cb16f9, 0xbffa49a3, 0xbf222982, 0x3ea4701a, 0x40135790, 0x3fc3e446)...), // f is not zero
		"too many points":        gridOf(257, impl.Plane{A: 1}),
		"far too many points":    gridOf(1000, impl.Plane{A: 1}),
		"three times one point":  vectorsOf(1, 2, 3, 1, 2, 3, 1, 2, 3),
		"points above another":   vectorsOf(1, 2, 3, 1, 2, 4, 1, 2, 5, 1, 2, 9),
		"points along x":         vectorsOf(0, 1, 2, 1, 1, 3, 2, 1, 7, 3, 1, 0),
		"points along y":         vectorsOf(5, 0, 1, 5, 1, 1, 5, 2, 1),
		"points across":          vectorsOf(0, 0, 1, 1, 1, 7, 2, 2, 3),
		"a plane steep along x":  vectorsOf(0, 0, 0, 1e-30, 0, great, 0, 1, 0),
		"a plane steep along y":  vectorsOf(0, 0, 0, 0, 1e-30, great, 1, 0, 0),
		"a plane high elsewhere": vectorsOf(1e20, 0, 0, 1.0001e20, 0, 1e36, 1e20, 1, 0),
	} {
		p, ok := impl.FitPlane(points)
		wantNoPlane(t, "FitPlane of "+what, p, ok)
	}
	for _, bits := range notFinite {
		for k := range 12 {
			numbers := []float32{0, 0, 1, 2, 0, 1, 0, 2, 1, 2, 2, 1}
			numbers[k] = at(bits)
			p, ok := impl.FitPlane(vectorsOf(numbers...))
			wantNoPlane(t, fmt.Sprintf("FitPlane with %08x as the number %d", bits, k), p, ok)
		}
	}
}

// squaresOff is the sum of the squares of how far points are from a plane.
func squaresOff(points []impl.Vector, a, b, c float64) float64 {
	sum := 0.0
	for _, v := range points {
		off := float64(v.Z) - a*float64(v.X) - b*float64(v.Y) - c
		sum += off * off
	}
	return sum
}

// No plane beside that which fits best has less squares.
func TestFitPlaneHasTheLeastSquares(t *testing.T) {
	for _, size := range sizes() {
		points := madeScene(patchyEven, size[0], size[1]).points[1]
		p, ok := impl.FitPlane(points)
		want(t, fmt.Sprint("FitPlane of a grid ", size, " succeeds"), ok, size[0] > 1 && size[1] > 1)
		if !ok {
			continue
		}
		a, b, c := float64(p.A), float64(p.B), float64(p.C)
		least := squaresOff(points, a, b, c)
		for _, by := range []float64{-0.001, 0.001} {
			for _, other := range []float64{squaresOff(points, a+by, b, c), squaresOff(points, a, b+by, c), squaresOff(points, a, b, c+by)} {
				if other < least {
					t.Errorf("FitPlane of a grid %v: got squares of %v, but there are planes with %v", size, least, other)
				}
			}
		}
	}
}
