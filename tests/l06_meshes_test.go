package tests

import (
	"fmt"
	"testing"

	"loop.example/g01223/impl"
)

func TestDepthMap(t *testing.T) {
	for _, c := range []struct {
		camera    impl.Camera
		m, wanted impl.Map
	}{
		{ordinaryCamera, mapOf(2, 2, 2, -1, 4), mapOf(2, 2, 2, -1, 1)},
		{ordinaryCamera, mapOf(1, 8), mapOf(1, 0.5)},
		{ordinaryCamera, mapOf(3, 0.5, 0, -0.25), mapOf(3, 8, -1, -1)},
		{ordinaryCamera, mapOf(1, 1, 2, 4), mapOf(1, 4, 2, 1)},
		{ordinaryCamera, mapAt(4, bitsInf, nanBits, bitsNull, bitsMost), mapAt(4, bitsHole, bitsHole, bitsHole, 0x00800001)},
		{cameraAt(bitsOne, bitsOne, 0, 0), mapAt(3, 1, 0x00200000, 0x00200001), mapAt(3, bitsHole, bitsHole, 0x7f7ffff8)},
		{cameraAt(1, bitsOne, 0, 0), mapAt(3, bitsOne, bitsTwo, 0x3fffffff), mapAt(3, 1, bitsHole, 1)},
		{cameraAt(bitsMost, bitsTwo, 0, 0), mapAt(2, bitsTwo, bitsMost), mapOf(2, -1, -1)},
	} {
		got, ok := impl.DepthMap(c.camera, c.m)
		wantMap(t, fmt.Sprint("DepthMap of ", c.m.Values, " with ", c.camera), got, ok, c.wanted)
	}
	for _, bits := range notAhead() {
		got, ok := impl.DepthMap(ordinaryCamera, mapAt(2, bits, bitsTwo))
		wantMap(t, fmt.Sprintf("DepthMap of %08x", bits), got, ok, mapOf(2, -1, 2))
	}
}

// A map of depths and the list of points are told by the same values.
func TestDepthsAndPointsAgree(t *testing.T) {
	for i, size := range sizes() {
		s := madeScene(i%patchyKinds, size[0], size[1])
		for _, c := range s.cameras {
			depths, ok := impl.DepthMap(c, s.m)
			want(t, "DepthMap succeeds", ok, true)
			points, cells, ok := impl.PointsOf(c, s.m)
			want(t, "PointsOf succeeds", ok, true)
			want(t, "cells of PointsOf", len(cells), len(points))
			next := 0
			for k, d := range s.m.Values {
				depth, ok := impl.DepthOf(c, d)
				if !ok {
					wantBits(t, "DepthMap of nothing", depths.Values[k], bitsHole)
					continue
				}
				wantBits(t, "DepthMap", depths.Values[k], bitsOf(depth))
				p, ok := impl.PointAt(c, float32(int64(k)%size[0]), float32(int64(k)/size[0]), d)
				want(t, "PointAt succeeds", ok, true)
				want(t, "cell of PointsOf", cells[next], int64(k))
				want(t, "point of PointsOf", bitsOfVector(points[next]), bitsOfVector(p))
				next++
			}
			want(t, "points of PointsOf", next, len(points))
		}
	}
}

func TestPointsOf(t *testing.T) {
	points, cells, ok := impl.PointsOf(ordinaryCamera, mapOf(2, 2, 2, -1, 4))
	wantList(t, "cells of PointsOf", cells, ok, 0, 1, 3)
	want(t, "points of PointsOf", textOfVectors(points), textOfVectors([]impl.Vector{{Z: 2}, {X: 0.25, Z: 2}, {X: 0.125, Y: 0.125, Z: 1}}))
	points, cells, ok = impl.PointsOf(impl.Camera{Focus: 2, Base: 1, MidX: 1, MidY: 2}, mapOf(1, 1, -1, 2))
	wantList(t, "cells of PointsOf", cells, ok, 0, 2)
	want(t, "points of PointsOf", textOfVectors(points), textOfVectors([]impl.Vector{{X: -1, Y: -2, Z: 2}, {X: -0.5, Z: 1}}))
	// Points with infinite numbers are points, too.
	points, cells, ok = impl.PointsOf(cameraAt(0x00800000, bitsOne, 0, bitsMost), mapAt(3, 0x00800000, 0, 0x00800000))
	wantList(t, "cells of PointsOf", cells, ok, 0, 2)
	want(t, "points of PointsOf", textOfVectors(points), textOfVectors([]impl.Vector{vectorAt(0, bitsLess, bitsOne), vectorAt(0x7f000000, bitsLess, bitsOne)}))
	for _, bits := range notAhead() {
		points, cells, ok := impl.PointsOf(ordinaryCamera, mapAt(2, bits, bits, bits, bits))
		wantList(t, fmt.Sprintf("cells of PointsOf of %08x", bits), cells, ok)
		want(t, "points of nothing", len(points), 0)
		points, triangles, ok := impl.MeshOf(ordinaryCamera, mapAt(2, bits, bits, bits, bits), 9)
		want(t, "MeshOf nothing succeeds", ok, true)
		want(t, "points of nothing", len(points), 0)
		want(t, "triangles of nothing", len(triangles), 0)
	}
}

func wantTriangles(t *testing.T, what string, m impl.Map, most float32, wanted ...[]int64) {
	t.Helper()
	points, triangles, ok := impl.MeshOf(ordinaryCamera, m, most)
	want(t, what+" succeeds", ok, true)
	want(t, what, fmt.Sprint(triangles), fmt.Sprint(wanted))
	all, _, _ := impl.PointsOf(ordinaryCamera, m)
	want(t, "points of "+what, textOfVectors(points), textOfVectors(all))
}

func TestMeshOf(t *testing.T) {
	wantTriangles(t, "MeshOf of one square", mapOf(2, 2, 2, 2, 2), 0.5, []int64{0, 1, 3}, []int64{0, 3, 2})
	wantTriangles(t, "MeshOf of three points", mapOf(2, 2, 2, -1, 4), 0.5)
	wantTriangles(t, "MeshOf of a row", mapOf(4, 2, 2, 2, 2), 9)
	wantTriangles(t, "MeshOf of a column", mapOf(1, 2, 2, 2, 2), 9)
	wantTriangles(t, "MeshOf of one cell", mapOf(1, 2), 9)
	wantTriangles(t, "MeshOf of two squares", mapOf(3, 2, 2, 2, 2, 2, 2), 0,
		[]int64{0, 1, 4}, []int64{0, 4, 3}, []int64{1, 2, 5}, []int64{1, 5, 4})
	wantTriangles(t, "MeshOf of squares above one another", mapOf(2, 2, 2, 2, 2, 2, 2), 0,
		[]int64{0, 1, 3}, []int64{0, 3, 2}, []int64{2, 3, 5}, []int64{2, 5, 4})
	// The numbers are those of the points, and not of the cells.
	wantTriangles(t, "MeshOf without the first cell", mapOf(3, -1, 2, 2, 2, 2, 2, 2, 2, 2), 0,
		[]int64{0, 1, 4}, []int64{0, 4, 3}, []int64{2, 3, 6}, []int64{2, 6, 5}, []int64{3, 4, 7}, []int64{3, 7, 6})
	wantTriangles(t, "MeshOf without the middle", mapOf(3, 2, 2, 2, 2, 0, 2, 2, 2, 2), 9)
	wantTriangles(t, "MeshOf with a hole at the edge", mapOf(3, 2, -1, 2, 2, 2, 2, 2, 2, 2), 9,
		[]int64{2, 3, 6}, []int64{2, 6, 5}, []int64{3, 4, 7}, []int64{3, 7, 6})
}

func TestMeshOfSteepSquares(t *testing.T) {
	whole := [][]int64{{0, 1, 3}, {0, 3, 2}}
	// The disparities 1, 2 and 4 have the depths 4, 2 and 1.
	for _, values := range [][]float32{{4, 2, 2, 2}, {2, 4, 2, 2}, {2, 2, 4, 2}, {2, 2, 2, 4}, {2, 2, 4, 4}, {4, 4, 4, 2}} {
		wantTriangles(t, fmt.Sprint("MeshOf of ", values, " with 1"), mapOf(2, values...), 1, whole...)
		wantTriangles(t, fmt.Sprint("MeshOf of ", values, " with less"), mapOf(2, values...), 0.99999994)
	}
	for _, values := range [][]float32{{1, 2, 4, 2}, {4, 1, 2, 2}, {2, 4, 1, 2}, {2, 2, 4, 1}, {1, 4, 4, 1}, {2, 1, 2, 4}} {
		wantTriangles(t, fmt.Sprint("MeshOf of ", values, " with 3"), mapOf(2, values...), 3, whole...)
		wantTriangles(t, fmt.Sprint("MeshOf of ", values, " with less"), mapOf(2, values...), 2.9999998)
	}
	flat := mapOf(2, 2, 2, 2, 2)
	for _, most := range []float32{0, at(bitsNull), at(1), 9, at(bitsMost), at(bitsInf)} {
		wantTriangles(t, fmt.Sprint("MeshOf with ", most), flat, most, whole...)
	}
	for _, most := range []float32{at(0x80000001), -1, at(bitsLess), at(nanBits), at(0xff800001)} {
		wantTriangles(t, fmt.Sprint("MeshOf with ", most), flat, most)
	}
	// The difference of the depths 16777216 and 0.75 is rounded to 16777215.
	far := mapOf(2, 4, 3.0/(1<<24), 4, 4)
	_, triangles, ok := impl.MeshOf(impl.Camera{Focus: 3, Base: 1}, far, 16777215)
	want(t, "MeshOf succeeds", ok, true)
	want(t, "triangles of a rounded difference", fmt.Sprint(triangles), fmt.Sprint(whole))
}

// A map without holes has two triangles between each four cells, and these tell
// its cells.
func TestMeshOfAllSizes(t *testing.T) {
	for _, size := range sizes() {
		m, _ := impl.FlatMap(size[0], size[1], 2)
		points, triangles, ok := impl.MeshOf(ordinaryCamera, m, 0)
		want(t, "MeshOf succeeds", ok, true)
		want(t, "points of MeshOf", int64(len(points)), size[0]*size[1])
		want(t, "triangles of MeshOf", int64(len(triangles)), 2*(size[0]-1)*(size[1]-1))
		for i, triangle := range triangles {
			square := int64(i / 2)
			first := square%(size[0]-1) + square/(size[0]-1)*size[0]
			wanted := []int64{first, first + 1, first + size[0] + 1}
			if i%2 == 1 {
				wanted = []int64{first, first + size[0] + 1, first + size[0]}
			}
			want(t, "triangle of MeshOf", fmt.Sprint(triangle), fmt.Sprint(wanted))
		}
	}
}
