package tests

import (
	"slices"
	"testing"

	"loop.example/g01223/impl"
)

// The tests of this file check promise 1 for chapter 3: every function returns
// for all arguments, modifies no argument, and returns equal results for equal
// arguments.

func TestFunctionsFailForInvalidVolumesAndMaps(t *testing.T) {
	for name, v := range invalidVolumes() {
		for _, f := range volumeCalls() {
			result, ok := f.call(v)
			want(t, f.name+" with a volume that is not valid: "+name, textOfResult(result, ok), textOfResult(noneOf(result), false))
		}
		valid := emptyVolume(min(max(v.Wide, 1), 16), min(max(v.High, 1), 16), min(max(v.Deep, 1), 8))
		for _, pair := range [][2]impl.Volume{{valid, v}, {v, valid}, {v, v}} {
			u, ok := impl.MixVolumes(pair[0], pair[1], 0.5)
			wantNoVolume(t, "MixVolumes: "+name, u, ok)
		}
		want(t, "SameVolume: "+name, impl.SameVolume(v, valid), false)
	}
	for name, m := range invalidMaps() {
		for _, f := range mapCalls() {
			result, ok := f.call(m)
			want(t, f.name+" with a map that is not valid: "+name, textOfResult(result, ok), textOfResult(noneOf(result), false))
		}
	}
}

// spaciousVolume returns a volume whose costs are a part of a longer array, and
// this array.
func spaciousVolume(v impl.Volume) (impl.Volume, []float32) {
	costs, array := within(v.Costs)
	v.Costs = costs
	return v, array
}

func TestVolumesAreNotModified(t *testing.T) {
	for kind := range madeKinds {
		for _, v := range volumesOfGreatest(kind) {
			u, array := spaciousVolume(v)
			kept := bitsOfList(array)
			v.Costs = slices.Clip(v.Costs)
			for _, f := range volumeCalls() {
				first, ok := f.call(u)
				second, okAgain := f.call(u)
				exact, okExact := f.call(v)
				text := textOfResult(first, ok)
				want(t, f.name+" again", textOfResult(second, okAgain), text)
				want(t, f.name+" with no unused capacity", textOfResult(exact, okExact), text)
				overwrite(first)
				third, okThird := f.call(u)
				want(t, f.name+" after its result is overwritten", textOfResult(third, okThird), text)
				if !slices.Equal(kept, bitsOfList(array)) {
					t.Fatalf("%s modifies its argument", f.name)
				}
			}
			want(t, "SameVolume", impl.SameVolume(u, v), true)
			want(t, "volume is as it was", slices.Equal(kept, bitsOfList(array)), true)
		}
	}
}

// overwrite changes all numbers of a result.
func overwrite(result any) {
	switch r := result.(type) {
	case impl.Volume:
		fillUp(r.Costs)
	case impl.Map:
		fillUp(r.Values)
	case impl.Picture:
		fillUp(r.Greys)
	case []float32:
		fillUp(r)
	case []int64:
		fillList(r)
	case solvedRow:
		fillList(r.row)
	case improvedMap:
		fillUp(r.plan.Values)
	case filledMap:
		fillUp(r.plan.Values)
	case patchList:
		fillList(r.patches)
		fillList(r.sizes)
	default:
		overwriteScene(result)
	}
}

func TestMapsAreNotModified(t *testing.T) {
	for i, size := range sizes() {
		m := madeMap(size[0], size[1], i)
		p, array := spacious(asPicture(m))
		kept := bitsOfList(array)
		for _, f := range mapCalls() {
			first, ok := f.call(asMap(p))
			second, okAgain := f.call(m)
			text := textOfResult(first, ok)
			want(t, f.name+" again", textOfResult(second, okAgain), text)
			overwrite(first)
			third, okThird := f.call(asMap(p))
			want(t, f.name+" after its result is overwritten", textOfResult(third, okThird), text)
		}
		want(t, "SameMap", impl.SameMap(m, asMap(p)), true)
		want(t, "map is as it was", slices.Equal(kept, bitsOfList(array)), true)
	}
	first, _ := impl.FlatMap(3, 3, 1)
	fillUp(first.Values)
	second, ok := impl.FlatMap(3, 3, 1)
	wantMap(t, "FlatMap again", second, ok, mapOf(3, 1, 1, 1, 1, 1, 1, 1, 1, 1))
}

// comparedCalls are functions of two pictures.
func comparedCalls() map[string]func(left, right impl.Picture) (any, bool) {
	type picture = impl.Picture
	return map[string]func(left, right picture) (any, bool){
		"SquareVolume": func(a, b picture) (any, bool) { return impl.SquareVolume(a, b, 5) },
		"SizeVolume":   func(a, b picture) (any, bool) { return impl.SizeVolume(a, b, 8) },
		"RankVolume":   func(a, b picture) (any, bool) { return impl.RankVolume(a, b, 2, 3) },
		"StackOf":      func(a, b picture) (any, bool) { return impl.StackOf([]picture{a, b, a}) },
		"WarpPicture":  func(a, b picture) (any, bool) { return impl.WarpPicture(a, asMap(b)) },
		"ErrorOf":      func(a, b picture) (any, bool) { return impl.ErrorOf(a, b, madeMap(a.Wide, a.High, 3)) },
		"WrongShare":   func(a, b picture) (any, bool) { return impl.WrongShare(asMap(a), asMap(b), 0.5) },
	}
}

func TestComparedPicturesAreNotModified(t *testing.T) {
	for kind := range madeKinds {
		for i, p := range ofGreatest(kind) {
			a, arrayA := spacious(p)
			b, arrayB := spacious(made(kind, p.Wide, p.High, 100+i))
			keptA, keptB := bitsOfList(arrayA), bitsOfList(arrayB)
			for name, f := range comparedCalls() {
				for _, pair := range [][2]impl.Picture{{a, b}, {b, a}, {a, a}} {
					first, ok := f(pair[0], pair[1])
					text := textOfResult(first, ok)
					overwrite(first)
					second, okAgain := f(pair[0], pair[1])
					want(t, name+" again", textOfResult(second, okAgain), text)
				}
				want(t, name+": first picture is as it was", slices.Equal(keptA, bitsOfList(arrayA)), true)
				want(t, name+": second picture is as it was", slices.Equal(keptB, bitsOfList(arrayB)), true)
			}
		}
	}
}

// A list of slices stays as it is, with its unused capacity.
func TestListsOfSlicesAreNotModified(t *testing.T) {
	list := []impl.Picture{counted(2, 2), counted(2, 2), counted(3, 1), counted(3, 1)}
	v, ok := impl.StackOf(list[:2])
	wantVolume(t, "StackOf", v, ok, volumeOf(2, 2, 1, 1, 2, 2, 3, 3, 4, 4))
	fillUp(v.Costs)
	for i, p := range []impl.Picture{counted(2, 2), counted(2, 2), counted(3, 1), counted(3, 1)} {
		wantSamePicture(t, "slice after StackOf", list[i], p)
	}
}

// otherNotANumbers returns the list with other bits of its not-a-numbers.
func otherNotANumbers(list []float32) []float32 {
	other := slices.Clone(list)
	for i, x := range other {
		if x != x {
			other[i] = at(0xffaaaaaa)
		}
	}
	return other
}

// The bits of a not-a-number in a volume or a map do not matter.
func TestNotANumbersInVolumesAreOneValue(t *testing.T) {
	for i, size := range sizes() {
		v := madeVolume(madeSpecial, size[0], size[1], int64(1+i%8), i)
		u := v
		u.Costs = otherNotANumbers(v.Costs)
		want(t, "SameVolume", impl.SameVolume(u, v), true)
		for _, f := range volumeCalls() {
			a, okA := f.call(v)
			b, okB := f.call(u)
			want(t, f.name, textOfResult(b, okB), textOfResult(a, okA))
		}
		m := madeMap(size[0], size[1], i)
		n := impl.Map{Wide: m.Wide, High: m.High, Values: otherNotANumbers(m.Values)}
		want(t, "SameMap", impl.SameMap(m, n), true)
		for _, f := range mapCalls() {
			a, okA := f.call(m)
			b, okB := f.call(n)
			want(t, f.name, textOfResult(b, okB), textOfResult(a, okA))
		}
		p := made(madeSpecial, size[0], size[1], i)
		q := impl.Picture{Wide: p.Wide, High: p.High, Greys: otherNotANumbers(p.Greys)}
		for name, f := range comparedCalls() {
			a, okA := f(p, p)
			b, okB := f(q, q)
			want(t, name, textOfResult(b, okB), textOfResult(a, okA))
		}
	}
}
