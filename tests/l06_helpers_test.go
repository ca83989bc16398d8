package tests

import (
	"fmt"
	"math"
	"slices"
	"testing"

	"loop.example/g01223/impl"
)

// pointList is what PointsOf returns, mesh what MeshOf returns, and bestPlane
// what BestPlane returns.
type pointList struct {
	points []impl.Vector
	cells  []int64
}

type mesh struct {
	points    []impl.Vector
	triangles [][]int64
}

type bestPlane struct {
	plane impl.Plane
	set   []int64
}

// rowOffset is what RowOffset returns.
type rowOffset struct {
	rows int64
	sum  float32
}

func textOfVectors(list []impl.Vector) string {
	text := ""
	for _, v := range list {
		text += fmt.Sprintf("%08x ", bitsOfVector(v))
	}
	return text
}

func textOfPlane(p impl.Plane) string {
	return fmt.Sprintf("%08x", bitsOfVector(impl.Vector{X: p.A, Y: p.B, Z: p.C}))
}

// textOfScene tells the results of this chapter.
func textOfScene(result any) string {
	switch r := result.(type) {
	case impl.Vector:
		return textOfVectors([]impl.Vector{r})
	case impl.Plane:
		return textOfPlane(r)
	case pointList:
		return fmt.Sprint(textOfVectors(r.points), r.cells)
	case mesh:
		return fmt.Sprint(textOfVectors(r.points), r.triangles)
	case bestPlane:
		return fmt.Sprint(textOfPlane(r.plane), r.set)
	case rowOffset:
		return fmt.Sprint(r.rows, bitsOf(r.sum))
	}
	return textOfWork(result)
}

// noneOfScene returns what functions of this chapter return that fail.
func noneOfScene(result any) any {
	switch result.(type) {
	case impl.Vector:
		return impl.Vector{}
	case impl.Plane:
		return impl.Plane{}
	case pointList:
		return pointList{}
	case mesh:
		return mesh{}
	case bestPlane:
		return bestPlane{}
	case rowOffset:
		return rowOffset{}
	}
	return noneOfWork(result)
}

// overwriteScene changes all numbers of a result of this chapter.
func overwriteScene(result any) {
	switch r := result.(type) {
	case pointList:
		fillVectors(r.points)
		fillList(r.cells)
	case mesh:
		fillVectors(r.points)
		for _, triangle := range r.triangles {
			fillList(triangle)
		}
	case bestPlane:
		fillList(r.set)
	default:
		overwriteWork(result)
	}
}

func fillVectors(list []impl.Vector) {
	list = list[:cap(list)]
	for i := range list {
		list[i] = impl.Vector{X: 99, Y: 99, Z: 99}
	}
}

// wantPlane checks a result of a function that succeeds.
func wantPlane(t *testing.T, what string, got impl.Plane, ok bool, a, b, c uint32) {
	t.Helper()
	want(t, what+" succeeds", ok, true)
	want(t, what, textOfPlane(got), textOfPlane(planeAt(a, b, c)))
}

// wantNoPlane checks a result of a function that fails.
func wantNoPlane(t *testing.T, what string, got impl.Plane, ok bool) {
	t.Helper()
	want(t, what+" succeeds", ok, false)
	want(t, what, textOfPlane(got), textOfPlane(impl.Plane{}))
}

func planeAt(a, b, c uint32) impl.Plane {
	return impl.Plane{A: at(a), B: at(b), C: at(c)}
}

func cameraAt(focus, base, midX, midY uint32) impl.Camera {
	return impl.Camera{Focus: at(focus), Base: at(base), MidX: at(midX), MidY: at(midY)}
}

// notFinite are the bits of numbers that are not finite.
var notFinite = []uint32{bitsInf, bitsLess, nanBits, 0xffc00000, 0x7f800001, 0xff800001, 0x7fffffff, 0xffffffff}

// notAhead are the bits of numbers that are not finite or not greater than 0.
func notAhead() []uint32 {
	return append([]uint32{0, bitsNull, 0x80000001, 0x807fffff, 0x80800000, bitsHole, 0xbe800000, 0xff7fffff}, notFinite...)
}

// invalidCameras returns cameras that are not valid.
func invalidCameras() map[string]impl.Camera {
	list := map[string]impl.Camera{"zero": {}}
	for _, bits := range notAhead() {
		list[fmt.Sprintf("the focus %08x", bits)] = cameraAt(bits, bitsOne, 0, 0)
		list[fmt.Sprintf("the base %08x", bits)] = cameraAt(bitsOne, bits, 0, 0)
	}
	for _, bits := range notFinite {
		list[fmt.Sprintf("the middle %08x along x", bits)] = cameraAt(bitsOne, bitsOne, bits, 0)
		list[fmt.Sprintf("the middle %08x along y", bits)] = cameraAt(bitsOne, bitsOne, 0, bits)
	}
	return list
}

// ordinaryCamera is that of the examples.
var ordinaryCamera = impl.Camera{Focus: 8, Base: 0.5}

// identity is the warp that leads where one is.
var identity = []float32{1, 0, 0, 0, 1, 0, 0, 0, 1}

// invalidWarps returns lists that are no warps.
func invalidWarps() map[string][]float32 {
	list := map[string][]float32{"none": nil}
	for _, count := range []int{1, 2, 3, 6, 8, 10, 12, 16, 18, 81} {
		list[fmt.Sprint("numbers: ", count)] = make([]float32, count)
	}
	list["one number too few"] = identity[:8]
	list["one number too many"] = append(slices.Clone(identity), 0)
	for k := range 9 {
		for _, bits := range notFinite {
			w := slices.Clone(identity)
			w[k] = at(bits)
			list[fmt.Sprintf("the number %d is %08x", k, bits)] = w
		}
	}
	return list
}

// finite makes a finite number: a grey, or 0 in place of one that is not.
func (m *maker) finite(kind int) float32 {
	x := m.grey(kind)
	if !(math.Abs(float64(x)) <= math.MaxFloat32) {
		return 0
	}
	return x
}

// ahead makes a finite number greater than 0.
func (m *maker) ahead(kind int) float32 {
	if x := m.price(kind); x > 0 {
		return x
	}
	return 1
}

// step makes one of count numbers from 0 on, which are one of parts apart.
func (m *maker) step(count, parts uint32) float32 {
	return float32(m.next()%count) / float32(parts)
}

// scene is what the functions of this chapter take, for maps of a size: wild
// and tame numbers of each sort.
type scene struct {
	cameras [2]impl.Camera
	m       impl.Map
	p, q    impl.Picture
	points  [2][]impl.Vector // the tame ones are near a plane
	planes  [2]impl.Plane
	warps   [2][]float32
	s, t    []float32 // where pictures are sampled
	near    float32
	seed    int
}

func madeScene(kind int, wide, high int64) scene {
	seed, other := int(wide*1000+high*10), kind%madeKinds
	s := scene{
		m:    patchyMap(kind, wide, high, seed+kind),
		p:    made(other, wide, high, seed+kind),
		q:    made(other, wide, high, seed+5),
		near: nearNumber(seed + 8),
		seed: seed,
	}
	m := maker{seed: uint32(seed + 9)}
	s.cameras[0] = impl.Camera{Focus: m.ahead(other), Base: m.ahead(other), MidX: m.finite(other), MidY: m.finite(other)}
	s.cameras[1] = impl.Camera{Focus: 0.125 + m.step(64, 8), Base: 0.125 + m.step(16, 8), MidX: m.step(64, 4), MidY: m.step(64, 4)}
	count := wide * high
	for range count {
		s.points[0] = append(s.points[0], impl.Vector{X: m.grey(other), Y: m.grey(other), Z: m.grey(other)})
	}
	for i := range count {
		s.points[1] = append(s.points[1], m.nearWall(i%wide, i/wide))
	}
	s.planes[0] = impl.Plane{A: m.grey(other), B: m.grey(other), C: m.grey(other)}
	s.planes[1] = impl.Plane{A: m.step(32, 64) - 0.25, B: m.step(32, 64) - 0.25, C: 0.125 + m.step(32, 8)}
	s.warps[0], s.warps[1] = make([]float32, 9), make([]float32, 9)
	for k := range 9 {
		s.warps[0][k] = m.finite(other)
	}
	for k := range 9 {
		s.warps[1][k] = m.step(64, 256) - 0.125 + identity[k]
	}
	for range count {
		s.s, s.t = append(s.s, m.step(1<<24, 1<<18)-20), append(s.t, m.step(1<<24, 1<<18)-20)
	}
	return s
}

// nearWall makes a point of the plane x / 2 - y / 4 + 1, but above it in one of
// four cases.
func (m *maker) nearWall(x, y int64) impl.Vector {
	v := impl.Vector{X: float32(x), Y: float32(y), Z: 1 + float32(x)/2 - float32(y)/4}
	if n := m.next(); n%4 == 0 {
		v.Z += float32(n/4%64) / 8
	}
	return v
}
