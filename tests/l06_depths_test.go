package tests

import (
	"fmt"
	"math"
	"testing"

	"loop.example/g01223/impl"
)

// The tests of this file and of the other files of chapter 6 check promise 7:
// points go back to the cells from which they came, nearly, and planes have the
// disparities that they are told to have.

func TestValidCamera(t *testing.T) {
	for _, c := range []impl.Camera{
		ordinaryCamera,
		{Focus: 1, Base: 1, MidX: -3, MidY: 7},
		cameraAt(1, 1, bitsNull, bitsNull), // the least numbers that are greater than 0
		cameraAt(bitsMost, bitsMost, bitsMost, bitsMost),
		cameraAt(1, bitsMost, 0xff7fffff, 1),
		cameraAt(bitsMost, 1, 1, 0xff7fffff),
	} {
		want(t, fmt.Sprint("ValidCamera ", c), impl.ValidCamera(c), true)
	}
	for name, c := range invalidCameras() {
		want(t, "ValidCamera with "+name, impl.ValidCamera(c), false)
	}
}

// depthQuotients are quotients of the product of a focus and a base, and a disparity
// or a depth; those that are 0 here fail.
var depthQuotients = []struct {
	focus, base, x, wanted uint32
}{
	{0x41000000, 0x3f000000, bitsTwo, bitsTwo},
	{0x41000000, 0x3f000000, bitsFour, bitsOne},
	{0x41000000, 0x3f000000, bitsOne, bitsFour},
	{0x41000000, 0x3f000000, bitsThree, 0x3faaaaab},
	// The product is rounded before it is divided.
	{0x3fa7bb13, 0x40c39d94, 0x40cf559b, 0x3f9e4017},
	{0x3fea60f0, 0x3f8b1182, 0x3fcee9d0, 0x3f9d8732},
	{0x3fcf4689, 0x40dabc73, 0x402d829d, 0x4082a6b8},
	// The product is too great, or nothing, though the quotient would not be.
	{bitsMost, bitsTwo, bitsTwo, 0},
	{bitsTwo, bitsMost, bitsMost, 0},
	{0x0da24260, 0x0da24260, 0x0da24260, 0},
	{1, 1, 1, 0},
	{1, 0x3f000000, 1, 0},
	{1, 0x3f000001, 1, bitsOne},
	{bitsMost, bitsOne, bitsMost, bitsOne},
	{bitsMost, bitsOne, bitsOne, bitsMost},
	// The quotient is too great, or nothing.
	{bitsMost, bitsOne, 0x3f7fffff, 0},
	{bitsMost, bitsOne, 1, 0},
	{bitsOne, bitsOne, 1, 0},
	{bitsOne, bitsOne, 0x00200000, 0},
	{bitsOne, bitsOne, 0x00200001, 0x7f7ffff8},
	{bitsOne, 1, bitsOne, 1},
	{bitsOne, 1, bitsTwo, 0},
	{bitsOne, 1, 0x3fffffff, 1},
	{bitsOne, 3, bitsTwo, 2},
	{bitsOne, 0x00800000, bitsMost, 0},
	{bitsOne, bitsOne, bitsMost, 0x00200000},
}

func TestDepthsAndDisparities(t *testing.T) {
	for name, f := range map[string]func(impl.Camera, float32) (float32, bool){"DepthOf": impl.DepthOf, "DisparityOf": impl.DisparityOf} {
		for _, c := range depthQuotients {
			camera := cameraAt(c.focus, c.base, bitsThree, bitsHole)
			got, ok := f(camera, at(c.x))
			what := fmt.Sprint(name, " of ", at(c.x), " with ", camera)
			want(t, what+" succeeds", ok, c.wanted != 0)
			wantBits(t, what, got, c.wanted)
		}
		for _, bits := range notAhead() {
			for _, camera := range []impl.Camera{ordinaryCamera, cameraAt(bitsMost, bitsMost, 0, 0), cameraAt(1, 1, 0, 0)} {
				got, ok := f(camera, at(bits))
				wantNoNumber(t, fmt.Sprintf("%s of %08x", name, bits), got, ok)
			}
		}
		for what, c := range invalidCameras() {
			for _, x := range []float32{1, 2, 1e-20, at(bitsInf)} {
				got, ok := f(c, x)
				wantNoNumber(t, name+" with "+what, got, ok)
			}
		}
	}
}

// A depth has the disparity whose depth it is, nearly.
func TestDepthsLeadBack(t *testing.T) {
	for i, size := range sizes() {
		s := madeScene(patchyEven, size[0], size[1])
		for _, d := range s.m.Values {
			depth, ok := impl.DepthOf(s.cameras[1], d)
			want(t, "DepthOf succeeds", ok, d > 0)
			if !ok {
				continue
			}
			again, ok := impl.DisparityOf(s.cameras[1], depth)
			want(t, "DisparityOf succeeds", ok, true)
			wantNear(t, fmt.Sprint("DisparityOf DepthOf, size ", i), float64(again), float64(d), 1e-6*float64(d))
		}
	}
}

func wantNear(t *testing.T, what string, got, wanted, near float64) {
	t.Helper()
	if !(math.Abs(got-wanted) <= near) {
		t.Errorf("%s: got %v, want %v, or at most %v away", what, got, wanted, near)
	}
}

func TestPointAt(t *testing.T) {
	middle := impl.Camera{Focus: 4, Base: 1, MidX: 1.5, MidY: 2.5}
	for _, c := range []struct {
		camera  impl.Camera
		x, y, d uint32
		wanted  impl.Vector
	}{
		{ordinaryCamera, bitsFour, 0, bitsTwo, impl.Vector{X: 1, Z: 2}},
		{ordinaryCamera, 0, bitsFour, bitsTwo, impl.Vector{Y: 1, Z: 2}},
		{ordinaryCamera, bitsFour, bitsHole, bitsOne, impl.Vector{X: 2, Y: -0.5, Z: 4}},
		{middle, 0x40600000, 0x3f000000, bitsTwo, impl.Vector{X: 1, Y: -1, Z: 2}},
		{middle, 0x3fc00000, 0x40200000, bitsOne, impl.Vector{Z: 4}},
		// The quotient is made first.
		{cameraAt(0x40abed16, 0x409b5bcd, 0x3f163c20, 0), 0x41520b65, 0, 0x40185511, impl.Vector{X: at(0x41cca423), Z: at(0x412f5779)}},
		{cameraAt(0x400127d6, 0x3f4bbfff, 0x40e56bfa, 0), 0x4138b372, 0, 0x40c67bbe, impl.Vector{X: at(0x3f0fb1c5), Z: at(0x3e849529)}},
		{cameraAt(0x40b1df28, 0x40bf0812, 0, 0x3fdcb310), 0, 0x409a629f, 0x3f2fddc1, impl.Vector{Y: at(0x41d787ec), Z: at(0x424135be)}},
		// Zeros have the sign of the difference.
		{ordinaryCamera, bitsNull, bitsNull, bitsTwo, vectorAt(bitsNull, bitsNull, bitsTwo)},
		{cameraAt(bitsOne, bitsOne, bitsNull, bitsNull), bitsNull, bitsNull, bitsTwo, impl.Vector{Z: 0.5}},
		{cameraAt(bitsOne, bitsOne, bitsNull, bitsNull), 0, 0, bitsTwo, impl.Vector{Z: 0.5}},
		{middle, 0x3fc00000, 0x40200000, bitsFour, impl.Vector{Z: 1}},
		// X and Y can be infinite: z alone has to be finite.
		{cameraAt(bitsOne, bitsOne, 0xff7fffff, bitsMost), bitsMost, 0xff7fffff, bitsOne, vectorAt(bitsInf, bitsLess, bitsOne)},
		{cameraAt(1, bitsMost, 0, 0), bitsTwo, bitsHole, bitsOne, vectorAt(bitsInf, bitsLess, 0x34ffffff)},
		{cameraAt(0x00800000, bitsOne, 0, 0), bitsFour, 0xc0800000, 0x00800000, vectorAt(bitsInf, bitsLess, bitsOne)},
		{cameraAt(bitsOne, bitsMost, 0, 0), bitsTwo, 0xc0000000, bitsOne, vectorAt(bitsInf, bitsLess, bitsMost)},
	} {
		got, ok := impl.PointAt(c.camera, at(c.x), at(c.y), at(c.d))
		what := fmt.Sprint("PointAt ", at(c.x), ", ", at(c.y), " and ", at(c.d), " with ", c.camera)
		want(t, what+" succeeds", ok, true)
		wantVector(t, what, got, bitsOf(c.wanted.X), bitsOf(c.wanted.Y), bitsOf(c.wanted.Z))
	}
}

func TestPointAtOfNothing(t *testing.T) {
	none := func(what string, p impl.Vector, ok bool) {
		t.Helper()
		want(t, what+" succeeds", ok, false)
		wantVector(t, what, p, 0, 0, 0)
	}
	for _, bits := range notFinite {
		p, ok := impl.PointAt(ordinaryCamera, at(bits), 1, 2)
		none(fmt.Sprintf("PointAt x %08x", bits), p, ok)
		p, ok = impl.PointAt(ordinaryCamera, 1, at(bits), 2)
		none(fmt.Sprintf("PointAt y %08x", bits), p, ok)
	}
	for _, bits := range notAhead() {
		p, ok := impl.PointAt(ordinaryCamera, 4, 0, at(bits))
		none(fmt.Sprintf("PointAt the disparity %08x", bits), p, ok)
	}
	for _, c := range depthQuotients {
		p, ok := impl.PointAt(cameraAt(c.focus, c.base, 0, 0), 0, 0, at(c.x))
		want(t, "PointAt succeeds", ok, c.wanted != 0)
		wantVector(t, "PointAt the middle", p, 0, 0, c.wanted)
	}
	for name, c := range invalidCameras() {
		p, ok := impl.PointAt(c, 4, 0, 2)
		none("PointAt with "+name, p, ok)
	}
}

func TestCellOf(t *testing.T) {
	middle := impl.Camera{Focus: 4, Base: 1, MidX: 1.5, MidY: 2.5}
	for _, c := range []struct {
		camera  impl.Camera
		p       impl.Vector
		x, y, d uint32
	}{
		{ordinaryCamera, impl.Vector{X: 1, Z: 2}, bitsFour, 0, bitsTwo},
		{ordinaryCamera, impl.Vector{Y: 1, Z: 2}, 0, bitsFour, bitsTwo},
		{middle, impl.Vector{X: 1, Y: -1, Z: 2}, 0x40600000, 0x3f000000, bitsTwo},
		{middle, impl.Vector{Z: 4}, 0x3fc00000, 0x40200000, bitsOne},
		// The quotient is made first, and the product is rounded.
		{cameraAt(0x40fa1a86, bitsOne, 0x3f0c0b26, 0), vectorAt(0x3fbafba5, 0, 0x40cb05f0), 0x40162ec8, 0, 0x3f9daecb},
		{cameraAt(0x409c42bb, bitsOne, 0x40d67627, 0), vectorAt(0x418b8d4e, 0, 0x3f9b7c32), 0x4299a6e0, 0, 0x4080a371},
		{cameraAt(0x4083adbb, bitsOne, 0, 0x40e3a121), vectorAt(0, 0x4116cdbc, 0x40077f5c), 0, 0x41cb75f3, 0x3ff8c8ef},
		{ordinaryCamera, vectorAt(bitsNull, 0, bitsTwo), 0, 0, bitsTwo},
		{cameraAt(bitsOne, bitsOne, bitsNull, bitsNull), vectorAt(bitsNull, 0, bitsTwo), bitsNull, 0, 0x3f000000},
		// X and Y are any numbers.
		{ordinaryCamera, vectorAt(bitsInf, bitsLess, bitsTwo), bitsInf, bitsLess, bitsTwo},
		{ordinaryCamera, vectorAt(nanBits, 0xff800001, bitsTwo), nanBits, nanBits, bitsTwo},
		{ordinaryCamera, vectorAt(bitsMost, 0xff7fffff, bitsTwo), bitsInf, bitsLess, bitsTwo},
		{cameraAt(bitsOne, 0x00800000, 0, 0), vectorAt(bitsTwo, bitsNull, 0x00800000), 0x7f000000, 0, bitsOne},
		{cameraAt(bitsOne, bitsOne, bitsMost, 0xff7fffff), vectorAt(bitsMost, 0xff7fffff, bitsOne), bitsInf, bitsLess, bitsOne},
	} {
		x, y, d, ok := impl.CellOf(c.camera, c.p)
		what := fmt.Sprint("CellOf ", c.p, " with ", c.camera)
		wantNumber(t, "x of "+what, x, ok, c.x)
		wantBits(t, "y of "+what, y, c.y)
		wantBits(t, "disparity of "+what, d, c.d)
	}
}

func TestCellOfNothing(t *testing.T) {
	none := func(what string, x, y, d float32, ok bool) {
		t.Helper()
		wantNoNumber(t, "x of "+what, x, ok)
		wantBits(t, "y of "+what, y, 0)
		wantBits(t, "disparity of "+what, d, 0)
	}
	for _, bits := range notAhead() {
		x, y, d, ok := impl.CellOf(ordinaryCamera, vectorAt(bitsOne, bitsTwo, bits))
		none(fmt.Sprintf("CellOf the depth %08x", bits), x, y, d, ok)
	}
	for _, c := range depthQuotients {
		camera := cameraAt(c.focus, c.base, bitsThree, bitsHole)
		x, y, d, ok := impl.CellOf(camera, vectorAt(0, 0, c.x))
		if c.wanted == 0 {
			none("CellOf where there is no disparity", x, y, d, ok)
			continue
		}
		wantNumber(t, "x of the middle", x, ok, bitsThree)
		wantBits(t, "y of the middle", y, bitsHole)
		wantBits(t, "disparity of the middle", d, c.wanted)
	}
	for name, c := range invalidCameras() {
		x, y, d, ok := impl.CellOf(c, impl.Vector{X: 1, Y: 1, Z: 2})
		none("CellOf with "+name, x, y, d, ok)
	}
}

// Points go back to the cells from which they came, nearly.
func TestPointsGoBack(t *testing.T) {
	for _, size := range sizes() {
		for _, kind := range []int{patchyFew, patchySparse, patchyEven} {
			s := madeScene(kind, size[0], size[1])
			c := s.cameras[1]
			points, cells, ok := impl.PointsOf(c, s.m)
			want(t, "PointsOf succeeds", ok, true)
			for i, p := range points {
				x, y, d, ok := impl.CellOf(c, p)
				want(t, "CellOf succeeds", ok, true)
				wantNear(t, "x of CellOf", float64(x), float64(cells[i]%size[0]), 1e-5)
				wantNear(t, "y of CellOf", float64(y), float64(cells[i]/size[0]), 1e-5)
				wanted := float64(s.m.Values[cells[i]])
				wantNear(t, "disparity of CellOf", float64(d), wanted, 1e-6*wanted)
			}
		}
	}
}
