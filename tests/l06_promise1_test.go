package tests

import (
	"fmt"
	"math"
	"slices"
	"testing"

	"loop.example/g01223/impl"
)

// The tests of this file check promise 1 for chapter 6: every function returns
// for all arguments, modifies no argument, and returns equal results for equal
// arguments.

// seenCalls are functions of a camera and a map.
func seenCalls() map[string]func(c impl.Camera, m impl.Map) (any, bool) {
	type camera = impl.Camera
	type plan = impl.Map
	return map[string]func(c camera, m plan) (any, bool){
		"DepthMap": func(c camera, m plan) (any, bool) { return impl.DepthMap(c, m) },
		"PointsOf": func(c camera, m plan) (any, bool) {
			points, cells, ok := impl.PointsOf(c, m)
			return pointList{points, cells}, ok
		},
		"MeshOf": func(c camera, m plan) (any, bool) {
			points, triangles, ok := impl.MeshOf(c, m, 1)
			return mesh{points, triangles}, ok
		},
	}
}

// fittedCalls are functions of points.
func fittedCalls() map[string]func(points []impl.Vector) (any, bool) {
	type vectors = []impl.Vector
	p := impl.Plane{A: 0.5, B: -0.25, C: 1}
	return map[string]func(points vectors) (any, bool){
		"FitPlane":  func(points vectors) (any, bool) { return impl.FitPlane(points) },
		"OffPlane":  func(points vectors) (any, bool) { return impl.OffPlane(points, p) },
		"NearPlane": func(points vectors) (any, bool) { return impl.NearPlane(points, p, 0.5) },
		"BestPlane": func(points vectors) (any, bool) {
			plane, set, ok := impl.BestPlane(points, 0.5, 1, 20)
			return bestPlane{plane, set}, ok
		},
	}
}

// bentCalls are functions of a picture.
func bentCalls() []pictureCall {
	type picture = impl.Picture
	return []pictureCall{
		{"SampleAt", func(p picture) (any, bool) { return impl.SampleAt(p, 0.5, 0.25) }},
		{"BendPicture", func(p picture) (any, bool) { return impl.BendPicture(shift, p) }},
		{"BendPicture to nowhere", func(p picture) (any, bool) { return impl.BendPicture(make([]float32, 9), p) }},
		{"RowOffset", func(p picture) (any, bool) { return offsetOf(p, p) }},
		{"RowOffset of a", func(p picture) (any, bool) { return offsetOf(p, likeMap(asMap(p))) }},
		{"RowOffset of b", func(p picture) (any, bool) { return offsetOf(likeMap(asMap(p)), p) }},
		{"BackPicture of a map", func(p picture) (any, bool) { return impl.BackPicture(asMap(p), likeMap(asMap(p))) }},
		{"BackPicture of a picture", func(p picture) (any, bool) { return impl.BackPicture(asMap(likeMap(asMap(p))), p) }},
	}
}

func offsetOf(a, b impl.Picture) (any, bool) {
	rows, sum, ok := impl.RowOffset(a, b, 3)
	return rowOffset{rows, sum}, ok
}

func TestCameraFunctionsFailForInvalidArguments(t *testing.T) {
	for name, f := range seenCalls() {
		for what, c := range invalidCameras() {
			result, ok := f(c, mapOf(2, 1, 2, 3, 4))
			wantNone(t, name+" with "+what, result, ok)
		}
		for what, m := range invalidMaps() {
			result, ok := f(ordinaryCamera, m)
			wantNone(t, name+" with a map that is not valid: "+what, result, ok)
		}
	}
	for what, p := range invalidPictures() {
		for _, f := range bentCalls() {
			result, ok := f.call(p)
			wantNone(t, f.name+" with a picture that is not valid: "+what, result, ok)
		}
	}
}

func TestCameraFunctionsFailForOtherSizes(t *testing.T) {
	p := counted(4, 3)
	for _, other := range []impl.Picture{counted(3, 3), counted(5, 3), counted(4, 2), counted(4, 4), counted(3, 4), counted(12, 1), counted(1, 1), {}} {
		for _, pair := range [][2]impl.Picture{{p, other}, {other, p}} {
			result, ok := offsetOf(pair[0], pair[1])
			wantNone(t, "RowOffset of another size", result, ok)
			left, ok := impl.BackPicture(asMap(pair[0]), pair[1])
			wantNoPicture(t, "BackPicture of another size", left, ok)
		}
	}
}

func TestMapsOfCamerasAreNotModified(t *testing.T) {
	for i, size := range sizes() {
		s := madeScene(i%patchyKinds, size[0], size[1])
		m, array := spacious(asPicture(s.m))
		exact := impl.Map{Wide: m.Wide, High: m.High, Values: slices.Clip(slices.Clone(m.Greys))}
		for name, f := range seenCalls() {
			for _, c := range s.cameras {
				wantPure(t, name, array, func() (any, bool) { return f(c, asMap(m)) })
				first, ok := f(c, asMap(m))
				second, okAgain := f(c, exact)
				want(t, name+" with no unused capacity", textOfResult(second, okAgain), textOfResult(first, ok))
			}
		}
		for _, f := range bentCalls() {
			wantPure(t, f.name, array, func() (any, bool) { return f.call(m) })
		}
		p, greys := spacious(s.p)
		for _, f := range bentCalls() {
			wantPure(t, f.name, greys, func() (any, bool) { return f.call(p) })
		}
		wantPure(t, "PlaneMap", greys, func() (any, bool) { return impl.PlaneMap(s.cameras[1], s.planes[1], size[0], size[1]) })
	}
}

func TestWarpsAreNotModified(t *testing.T) {
	for i, size := range sizes() {
		s := madeScene(i%patchyKinds, size[0], size[1])
		for _, w := range s.warps {
			a, arrayA := within(w)
			b, arrayB := within(s.warps[1])
			for _, array := range [][]float32{arrayA, arrayB} {
				wantPure(t, "TimesWarp", array, func() (any, bool) { return impl.TimesWarp(a, b) })
				wantPure(t, "TimesWarp", array, func() (any, bool) { return impl.TimesWarp(b, a) })
			}
			wantPure(t, "TimesWarp of one warp twice", arrayA, func() (any, bool) { return impl.TimesWarp(a, a) })
			wantPure(t, "OppositeWarp", arrayA, func() (any, bool) { return impl.OppositeWarp(a) })
			wantPure(t, "BendPicture", arrayA, func() (any, bool) { return impl.BendPicture(a, s.p) })
			wantPure(t, "WarpPoint", arrayA, func() (any, bool) {
				u, v, ok := impl.WarpPoint(a, s.s[0], s.t[0])
				return []float32{u, v}, ok
			})
			want(t, "IsWarp", impl.IsWarp(a), true)
		}
	}
}

func TestPointsAreNotModified(t *testing.T) {
	for i, size := range sizes() {
		s := madeScene(i%patchyKinds, size[0], size[1])
		for _, points := range s.points {
			array := append([]impl.Vector{{X: -7}}, points...)
			array = append(array, impl.Vector{Y: 11}, impl.Vector{Z: 12})
			part, kept := array[1:1+len(points)], textOfVectors(array)
			for name, f := range fittedCalls() {
				first, ok := f(part)
				text := textOfResult(first, ok)
				overwriteScene(first)
				second, okAgain := f(slices.Clip(slices.Clone(points)))
				want(t, name+" again", textOfResult(second, okAgain), text)
				third, okThird := f(part)
				want(t, name+" after its result is overwritten", textOfResult(third, okThird), text)
			}
			want(t, "points are as they were", textOfVectors(array), kept)
		}
	}
}

// No triangle shares memory with another one, or with the points.
func TestTrianglesAreNotShared(t *testing.T) {
	m := mapOf(3, 2, 2, 2, 2, 2, 2)
	points, triangles, ok := impl.MeshOf(ordinaryCamera, m, 1)
	want(t, "MeshOf succeeds", ok, true)
	kept := textOfVectors(points)
	for i := range triangles {
		others := fmt.Sprint(triangles[i+1:])
		before := fmt.Sprint(triangles[:i])
		fillList(triangles[i])
		want(t, "triangles behind one that is overwritten", fmt.Sprint(triangles[i+1:]), others)
		want(t, "triangles before one that is overwritten", fmt.Sprint(triangles[:i]), before)
	}
	want(t, "points after triangles are overwritten", textOfVectors(points), kept)
	list, cells, ok := impl.PointsOf(ordinaryCamera, m)
	fillVectors(list)
	wantList(t, "cells after points are overwritten", cells, ok, 0, 1, 2, 3, 4, 5)
}

// otherVectors returns the points with other bits of their not-a-numbers.
func otherVectors(points []impl.Vector) []impl.Vector {
	var list []impl.Vector
	for _, v := range points {
		n := otherNotANumbers([]float32{v.X, v.Y, v.Z})
		list = append(list, impl.Vector{X: n[0], Y: n[1], Z: n[2]})
	}
	return list
}

// The bits of a not-a-number do not matter.
func TestNotANumbersOfScenesAreOneValue(t *testing.T) {
	for _, size := range sizes() {
		s := madeScene(patchyEven, size[0], size[1]) // its greys are special
		n := impl.Map{Wide: size[0], High: size[1], Values: otherNotANumbers(s.p.Greys)}
		for name, f := range seenCalls() {
			a, okA := f(s.cameras[1], asMap(s.p))
			b, okB := f(s.cameras[1], n)
			want(t, name, textOfResult(b, okB), textOfResult(a, okA))
		}
		for _, f := range bentCalls() {
			a, okA := f.call(s.p)
			b, okB := f.call(asPicture(n))
			want(t, f.name, textOfResult(b, okB), textOfResult(a, okA))
		}
		for name, f := range fittedCalls() {
			a, okA := f(s.points[0])
			b, okB := f(otherVectors(s.points[0]))
			want(t, name, textOfResult(b, okB), textOfResult(a, okA))
		}
	}
}

// Any numbers are taken where the document names no limits.
func TestSceneFunctionsTakeAllNumbers(t *testing.T) {
	points := madeScene(patchyFew, 16, 16).points[1]
	m := mapOf(3, 2, 2, 2, 1, 1, 2)
	for _, x := range specialBits {
		for _, y := range specialBits {
			a, b := at(x), at(y)
			plane := impl.Plane{A: a, B: b, C: 1}
			wantBits(t, "HeightAt", impl.HeightAt(plane, 0.5, 0.25), bitsOf(float32(a*0.5)+float32(b*0.25)+1))
			_, ok := impl.OffPlane(points, plane)
			want(t, "OffPlane succeeds", ok, true)
			_, ok = impl.NearPlane(points, plane, a)
			want(t, "NearPlane succeeds", ok, true)
			_, ok = impl.PlaneMap(ordinaryCamera, impl.Plane{A: b, B: a, C: b}, 3, 2)
			want(t, "PlaneMap succeeds", ok, true)
			_, _, ok = impl.MeshOf(ordinaryCamera, m, a)
			want(t, "MeshOf succeeds", ok, true)
			p, ok := impl.PlaneThrough(impl.Vector{X: a, Y: 1, Z: b}, impl.Vector{X: b, Y: a, Z: 2}, impl.Vector{X: 3, Y: b, Z: a})
			want(t, "PlaneThrough", ok || p == impl.Plane{}, true)
			u, v, ok := impl.WarpPoint([]float32{1, 0, 0, 0, 1, 0, 0.5, 0, 1}, a, b)
			want(t, "WarpPoint", ok || u == 0 && v == 0, true)
		}
	}
	for _, seed := range []int64{math.MinInt64, -1, 0, 1, math.MaxInt64} {
		for _, rounds := range []int64{math.MinInt64, 0, 1, 50, 51, math.MaxInt64} {
			p, set, ok := impl.BestPlane(points, 0.25, seed, rounds)
			want(t, fmt.Sprint("BestPlane with the seed ", seed, " and rounds: ", rounds), ok, len(set) > 0)
			want(t, "BestPlane that fails", ok || p == impl.Plane{}, true)
		}
	}
}
