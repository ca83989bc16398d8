package tests

import (
	"fmt"
	"math"
	"slices"
	"testing"

	"loop.example/g01223/impl"
)

// The tests of this file check promise 1 for chapter 5: every function returns
// for all arguments, modifies no argument, and returns equal results for equal
// arguments.

// wantNone checks what a function returns that fails.
func wantNone(t *testing.T, what string, result any, ok bool) {
	t.Helper()
	want(t, what, textOfResult(result, ok), textOfResult(noneOf(result), false))
}

func TestDisparityFunctionsFailForInvalidArguments(t *testing.T) {
	for name, m := range invalidMaps() {
		for _, f := range valuedCalls() {
			result, ok := f.call(m)
			wantNone(t, f.name+" with a map that is not valid: "+name, result, ok)
		}
		v := emptyVolume(min(max(m.Wide, 1), 16), min(max(m.High, 1), 16), 8)
		result, ok := impl.WinnersNear(v, m, 1)
		wantNoMap(t, "WinnersNear with a map that is not valid: "+name, result, ok)
		valid := zeroMap(v)
		for pair, f := range pairedCalls() {
			for _, both := range [][2]impl.Map{{m, valid}, {valid, m}, {m, m}} {
				result, ok := f(both[0], both[1])
				wantNone(t, pair+" with a map that is not valid: "+name, result, ok)
			}
		}
	}
	for name, v := range invalidVolumes() {
		for _, f := range sharpCalls() {
			result, ok := f.call(v)
			wantNone(t, f.name+" with a volume that is not valid: "+name, result, ok)
		}
	}
	for name, p := range invalidPictures() {
		valid := counted(min(max(p.Wide, 1), 16), min(max(p.High, 1), 16))
		for levels := int64(1); levels <= 4; levels++ {
			for _, pair := range [][2]impl.Picture{{valid, p}, {p, valid}, {p, p}} {
				result, ok := impl.CoarseToFine(pair[0], pair[1], 4, levels)
				wantNoMap(t, "CoarseToFine: "+name, result, ok)
			}
		}
	}
}

// pairedCalls are functions of two maps of the same size, or of a map and a
// picture of it.
func pairedCalls() map[string]func(a, b impl.Map) (any, bool) {
	type plan = impl.Map
	return map[string]func(a, b plan) (any, bool){
		"LessMaps":       func(a, b plan) (any, bool) { return impl.LessMaps(a, b) },
		"KeepMap":        func(a, b plan) (any, bool) { return impl.KeepMap(a, b, 0.5) },
		"CheckMaps":      func(a, b plan) (any, bool) { return impl.CheckMaps(a, b, 0.5) },
		"GuidedMap 0":    func(a, b plan) (any, bool) { return impl.GuidedMap(a, asPicture(b), 0, 0.5) },
		"GuidedMap 3":    func(a, b plan) (any, bool) { return impl.GuidedMap(a, asPicture(b), 3, 0.5) },
		"CoarseToFine 1": func(a, b plan) (any, bool) { return impl.CoarseToFine(asPicture(a), asPicture(b), 8, 1) },
		"CoarseToFine 4": func(a, b plan) (any, bool) { return impl.CoarseToFine(asPicture(a), asPicture(b), 8, 4) },
	}
}

func TestDisparityFunctionsFailForOtherSizes(t *testing.T) {
	m := countedMap(4, 3)
	for name, f := range pairedCalls() {
		for _, other := range []impl.Map{countedMap(3, 3), countedMap(5, 3), countedMap(4, 2), countedMap(4, 4), countedMap(3, 4), countedMap(12, 1), countedMap(1, 1), {}} {
			result, ok := f(m, other)
			wantNone(t, name+" of another size", result, ok)
			result, ok = f(other, m)
			wantNone(t, name+" of another size", result, ok)
			near, ok := impl.WinnersNear(countedVolume(4, 3, 2), other, 1)
			wantNoMap(t, "WinnersNear of another size", near, ok)
		}
	}
}

func TestMapsOfDisparitiesAreNotModified(t *testing.T) {
	for i, size := range sizes() {
		kind := i % patchyKinds
		m, array := spacious(asPicture(patchyMap(kind, size[0], size[1], i)))
		exact := impl.Map{Wide: m.Wide, High: m.High, Values: slices.Clip(slices.Clone(m.Greys))}
		for _, f := range valuedCalls() {
			wantPure(t, f.name, array, func() (any, bool) { return f.call(asMap(m)) })
			first, ok := f.call(asMap(m))
			second, okAgain := f.call(exact)
			want(t, f.name+" with no unused capacity", textOfResult(second, okAgain), textOfResult(first, ok))
		}
		other, otherArray := spacious(asPicture(patchyMap(kind, size[0], size[1], i+500)))
		for name, f := range pairedCalls() {
			wantPure(t, name, array, func() (any, bool) { return f(asMap(m), asMap(other)) })
			wantPure(t, name, otherArray, func() (any, bool) { return f(asMap(m), asMap(other)) })
			wantPure(t, name+" of one map twice", array, func() (any, bool) { return f(asMap(m), asMap(m)) })
		}
		limits, limitArray := within(limitsOf(10 * i))
		wantPure(t, "CountValues", limitArray, func() (any, bool) { return impl.CountValues(asMap(m), limits) })
		v, costs := spaciousVolume(madeVolume(kind%madeKinds, size[0], size[1], int64(1+i%8), i))
		wantPure(t, "WinnersNear", array, func() (any, bool) { return impl.WinnersNear(v, asMap(m), int64(i%9)) })
		for _, f := range sharpCalls() {
			wantPure(t, f.name, costs, func() (any, bool) { return f.call(v) })
		}
	}
}

// Both lists of PatchesOf are new memory, and share none of it.
func TestListsOfPatchesAreNotShared(t *testing.T) {
	m := mapOf(3, 1, 5, 5, 9, 9, 9)
	patches, sizes, ok := impl.PatchesOf(m, 0)
	wantList(t, "PatchesOf", patches, ok, 0, 1, 1, 2, 2, 2)
	fillList(patches)
	wantList(t, "sizes after patches are overwritten", sizes, ok, 1, 2, 3)
	patches, sizes, ok = impl.PatchesOf(m, 0)
	fillList(sizes)
	wantList(t, "patches after sizes are overwritten", patches, ok, 0, 1, 1, 2, 2, 2)
}

// The bits of a not-a-number do not matter.
func TestNotANumbersOfDisparitiesAreOneValue(t *testing.T) {
	for i, size := range sizes() {
		m := patchyMap(patchySpecial, size[0], size[1], i)
		n := impl.Map{Wide: m.Wide, High: m.High, Values: otherNotANumbers(m.Values)}
		for _, f := range valuedCalls() {
			a, okA := f.call(m)
			b, okB := f.call(n)
			want(t, f.name, textOfResult(b, okB), textOfResult(a, okA))
		}
		other := patchyMap(patchySpecial, size[0], size[1], i+500)
		for name, f := range pairedCalls() {
			a, okA := f(m, other)
			b, okB := f(n, impl.Map{Wide: other.Wide, High: other.High, Values: otherNotANumbers(other.Values)})
			want(t, name, textOfResult(b, okB), textOfResult(a, okA))
		}
		v := madeVolume(madeSpecial, size[0], size[1], int64(1+i%8), i)
		u := v
		u.Costs = otherNotANumbers(v.Costs)
		for _, f := range sharpCalls() {
			a, okA := f.call(v)
			b, okB := f.call(u)
			want(t, f.name, textOfResult(b, okB), textOfResult(a, okA))
		}
	}
}

// Any numbers are taken where the document names no limits.
func TestDisparityFunctionsTakeAllNumbers(t *testing.T) {
	for i, bits := range specialBits {
		x := at(bits)
		for kind := range patchyKinds {
			m := patchyMap(kind, 5, 4, i)
			p := made(kind%madeKinds, 5, 4, i)
			for name, f := range map[string]func() (any, bool){
				"KeepMap":     func() (any, bool) { return impl.KeepMap(m, asMap(p), x) },
				"CheckMaps":   func() (any, bool) { return impl.CheckMaps(m, asMap(p), x) },
				"ChecksOf":    func() (any, bool) { return impl.ChecksOf(madeVolume(kind%madeKinds, 5, 4, 3, i), x) },
				"GuidedMap":   func() (any, bool) { return impl.GuidedMap(m, p, 2, x) },
				"DropPatches": func() (any, bool) { return impl.DropPatches(m, x, 2) },
				"BordersOf":   func() (any, bool) { return impl.BordersOf(m, x) },
				"PatchesOf": func() (any, bool) {
					patches, sizes, ok := impl.PatchesOf(m, x)
					return patchList{patches, sizes}, ok
				},
			} {
				result, ok := f()
				want(t, fmt.Sprint(name, " with the number ", x, " succeeds"), ok, true)
				again, okAgain := f()
				want(t, name+" again", textOfResult(again, okAgain), textOfResult(result, ok))
			}
		}
	}
	for _, least := range []int64{math.MinInt64, -1, 0, 1, 2, 256, 257, math.MaxInt64} {
		_, ok := impl.DropPatches(countedMap(16, 16), 1, least)
		want(t, fmt.Sprint("DropPatches of fewer than ", least, " cells succeeds"), ok, true)
	}
}
