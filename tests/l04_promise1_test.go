package tests

import (
	"fmt"
	"slices"
	"testing"

	"loop.example/g01223/impl"
)

// The tests of this file check promise 1 for chapter 4: every function returns
// for all arguments, modifies no argument, and returns equal results for equal
// arguments.

func TestPathFunctionsFailForInvalidVolumes(t *testing.T) {
	p := impl.Prices{One: 1, More: 2}
	for name, v := range invalidVolumes() {
		for _, f := range placedCalls() {
			result, ok := f.call(v)
			want(t, f.name+" with a volume that is not valid: "+name, textOfResult(result, ok), textOfResult(noneOf(result), false))
		}
		for _, f := range pricedCalls() {
			result, ok := f.call(v, p)
			want(t, f.name+" with a volume that is not valid: "+name, textOfResult(result, ok), textOfResult(noneOf(result), false))
		}
	}
}

func TestPathFunctionsFailForInvalidPrices(t *testing.T) {
	for _, v := range []impl.Volume{emptyVolume(3, 2, 4), emptyVolume(1, 1, 1), emptyVolume(16, 16, 8)} {
		for name, p := range invalidPrices() {
			for _, f := range pricedCalls() {
				result, ok := f.call(v, p)
				want(t, f.name+" with prices that are not valid: "+name, textOfResult(result, ok), textOfResult(noneOf(result), false))
			}
		}
	}
}

// fillList overwrites a list and its unused capacity.
func fillList(list []int64) {
	list = list[:cap(list)]
	for i := range list {
		list[i] = 99
	}
}

// wantPure checks that a call with an argument whose array is told returns equal
// results each time, and leaves the array as it is.
func wantPure(t *testing.T, what string, array []float32, call func() (any, bool)) {
	t.Helper()
	kept := bitsOfList(array)
	first, ok := call()
	text := textOfResult(first, ok)
	second, okAgain := call()
	want(t, what+" again", textOfResult(second, okAgain), text)
	overwrite(first)
	third, okThird := call()
	want(t, what+" after its result is overwritten", textOfResult(third, okThird), text)
	want(t, what+" leaves its argument as it is", slices.Equal(kept, bitsOfList(array)), true)
}

func TestVolumesOfPathsAreNotModified(t *testing.T) {
	for kind := range madeKinds {
		for i, v := range append(volumesOfGreatest(kind), payable(madeVolume(kind, 7, 5, 8, kind))) {
			p := madePrices(kind, i)
			u, array := spaciousVolume(v)
			for _, f := range placedCalls() {
				wantPure(t, f.name, array, func() (any, bool) { return f.call(u) })
			}
			for _, f := range pricedCalls() {
				wantPure(t, f.name, array, func() (any, bool) { return f.call(u, p) })
				exact, ok := f.call(v, p)
				again, okAgain := f.call(u, p)
				want(t, f.name+" with other capacities", textOfResult(again, okAgain), textOfResult(exact, ok))
			}
			other, otherArray := spaciousVolume(madeVolume(kind, v.Wide, v.High, v.Deep, i+77))
			wantPure(t, "AddVolumes", otherArray, func() (any, bool) { return impl.AddVolumes(u, other) })
			wantPure(t, "AddVolumes", array, func() (any, bool) { return impl.AddVolumes(u, other) })
		}
	}
}

func TestMapsAndListsOfPathsAreNotModified(t *testing.T) {
	for i, size := range sizes() {
		kind, deep := i%madeKinds, int64(1+i%8)
		v := madeVolume(kind, size[0], size[1], deep, i)
		plan, array := spacious(asPicture(madeWhole(size[0], size[1], deep, i+1)))
		for name, f := range wholeCalls() {
			wantPure(t, name, array, func() (any, bool) { return f(v, asMap(plan)) })
		}
		want(t, "IsWhole", impl.IsWhole(v, asMap(plan)), true)
		over, overArray := spacious(made(kind, size[0], size[1], i+2))
		p := madePrices(kind, i+3)
		wantPure(t, "PathOver", overArray, func() (any, bool) { return impl.PathOver(v, p, over, int64(i%8)) })
		wantPure(t, "SumOver", overArray, func() (any, bool) { return impl.SumOver(v, p, over, int64(1+i%8)) })
		list, listArray := within(v.Costs[:deep])
		wantPure(t, "JumpCosts", listArray, func() (any, bool) { return impl.JumpCosts(list, p) })
		row := make([]int64, size[0], size[0]+3)
		for x := range row {
			row[x] = int64(x) % deep
		}
		kept := fmt.Sprint(row[:cap(row)])
		wantPure(t, "RowCost", v.Costs, func() (any, bool) { return impl.RowCost(v, p, 0, row) })
		want(t, "row after RowCost", fmt.Sprint(row[:cap(row)]), kept)
	}
}

// The bits of a not-a-number in a volume or a picture do not matter.
func TestNotANumbersOfPathsAreOneValue(t *testing.T) {
	for i, size := range sizes() {
		v := madeVolume(madeSpecial, size[0], size[1], int64(1+i%8), i)
		u := v
		u.Costs = otherNotANumbers(v.Costs)
		p := madePrices(madeEven, i)
		for _, f := range placedCalls() {
			a, okA := f.call(v)
			b, okB := f.call(u)
			want(t, f.name, textOfResult(b, okB), textOfResult(a, okA))
		}
		for _, f := range pricedCalls() {
			a, okA := f.call(v, p)
			b, okB := f.call(u, p)
			want(t, f.name, textOfResult(b, okB), textOfResult(a, okA))
		}
		over := made(madeSpecial, size[0], size[1], i+1)
		a, okA := impl.PathOver(v, p, over, int64(i%8))
		over.Greys = otherNotANumbers(over.Greys)
		b, okB := impl.PathOver(u, p, over, int64(i%8))
		want(t, "PathOver", textOfResult(b, okB), textOfResult(a, okA))
	}
}
