package tests

import (
	"slices"
	"testing"

	"loop.example/g01223/impl"
)

// The tests of this file check promise 1 for chapter 2: every function returns
// for all arguments, modifies no argument, and returns equal results for equal
// arguments.

// noneOf tells what a failing function returns in place of a result.
func noneOf(result any) any {
	switch r := result.(type) {
	case impl.Picture:
		return impl.Picture{}
	case []impl.Picture:
		return []impl.Picture{}
	case impl.Volume:
		return impl.Volume{}
	case impl.Map:
		return impl.Map{}
	case []float32:
		return make([]float32, len(r))
	case []int64:
		return []int64{}
	case float32:
		return float32(0)
	case solvedRow:
		return solvedRow{}
	case improvedMap:
		return improvedMap{}
	case filledMap:
		return filledMap{}
	case patchList:
		return patchList{}
	}
	return noneOfScene(result)
}

func TestFunctionsFailForInvalidPictures(t *testing.T) {
	for name, p := range invalidPictures() {
		for _, f := range pictureCalls() {
			result, ok := f.call(p)
			want(t, f.name+" with a picture that is not valid: "+name, textOfResult(result, ok), textOfResult(noneOf(result), false))
		}
		valid := counted(min(max(p.Wide, 1), 16), min(max(p.High, 1), 16))
		for _, pair := range [][2]impl.Picture{{valid, p}, {p, valid}, {p, p}} {
			q, ok := impl.LessPictures(pair[0], pair[1])
			wantNoPicture(t, "LessPictures: "+name, q, ok)
			count, ok := impl.CountUnlike(pair[0], pair[1], 1)
			want(t, "CountUnlike succeeds: "+name, ok, false)
			want(t, "CountUnlike: "+name, count, 0)
		}
		want(t, "SamePicture: "+name, impl.SamePicture(p, valid), false)
	}
}

// spacious returns a picture whose greys are a part of a longer array, and this
// array.
func spacious(p impl.Picture) (impl.Picture, []float32) {
	greys, array := within(p.Greys)
	return impl.Picture{Wide: p.Wide, High: p.High, Greys: greys}, array
}

func TestPicturesAreNotModified(t *testing.T) {
	for kind := range madeKinds {
		for _, p := range ofGreatest(kind) {
			q, array := spacious(p)
			kept := bitsOfList(array)
			for _, f := range pictureCalls() {
				first, ok := f.call(q)
				second, okAgain := f.call(q)
				exact, okExact := f.call(impl.Picture{Wide: p.Wide, High: p.High, Greys: slices.Clip(p.Greys)})
				text := textOfResult(first, ok)
				want(t, f.name+" again", textOfResult(second, okAgain), text)
				want(t, f.name+" with no unused capacity", textOfResult(exact, okExact), text)
				if !slices.Equal(kept, bitsOfList(array)) {
					t.Fatalf("%s modifies its argument", f.name)
				}
			}
			want(t, "SamePicture", impl.SamePicture(p, q), true)
			want(t, "picture is as it was", slices.Equal(kept, bitsOfList(array)), true)
		}
	}
}

// fillUp overwrites a list and its unused capacity.
func fillUp(list []float32) {
	list = list[:cap(list)]
	for i := range list {
		list[i] = 99
	}
}

func TestPicturesAreNewMemory(t *testing.T) {
	for _, p := range ofGreatest(madeSpecial) {
		q, array := spacious(p)
		kept := bitsOfList(array)
		for _, f := range pictureCalls() {
			result, ok := f.call(q)
			text := textOfResult(result, ok)
			switch r := result.(type) {
			case impl.Picture:
				fillUp(r.Greys)
			case []impl.Picture:
				for i := range r {
					rest := textOfResult(r[i+1:], true)
					fillUp(r[i].Greys)
					want(t, f.name+": levels behind one that is overwritten", textOfResult(r[i+1:], true), rest)
				}
			}
			want(t, f.name+": argument is as it was", slices.Equal(kept, bitsOfList(array)), true)
			result, ok = f.call(q)
			want(t, f.name+" after its result is overwritten", textOfResult(result, ok), text)
		}
	}
	first, _ := impl.FlatPicture(3, 3, 1)
	fillUp(first.Greys)
	second, ok := impl.FlatPicture(3, 3, 1)
	wantPicture(t, "FlatPicture again", second, ok, pictureOf(3, 1, 1, 1, 1, 1, 1, 1, 1, 1))
	ranks, _ := impl.RanksOf(counted(3, 2), 1)
	clear(ranks)
	again, _ := impl.RanksOf(counted(3, 2), 1)
	want(t, "ranks are new memory", slices.Equal(again, ranks), false)
}

// Both pictures of a pair may be one, or parts of one array.
func TestPairsAreNotModified(t *testing.T) {
	for kind := range madeKinds {
		for i, p := range ofGreatest(kind) {
			a, arrayA := spacious(p)
			b, arrayB := spacious(made(kind, p.Wide, p.High, 100+i))
			keptA, keptB := bitsOfList(arrayA), bitsOfList(arrayB)
			less, ok := impl.LessPictures(a, b)
			again, okAgain := impl.LessPictures(a, b)
			wantPicture(t, "LessPictures again", again, ok && okAgain, less)
			fillUp(less.Greys)
			n, ok := impl.CountUnlike(a, b, 0.5)
			want(t, "CountUnlike succeeds", ok, true)
			m, _ := impl.CountUnlike(a, b, 0.5)
			want(t, "CountUnlike again", m, n)
			want(t, "SamePicture again", impl.SamePicture(a, b), impl.SamePicture(a, b))
			want(t, "first picture is as it was", slices.Equal(keptA, bitsOfList(arrayA)), true)
			want(t, "second picture is as it was", slices.Equal(keptB, bitsOfList(arrayB)), true)
		}
	}
}

// The bits of a not-a-number in a picture do not matter.
func TestNotANumbersInPicturesAreOneValue(t *testing.T) {
	for i, size := range sizes() {
		p := made(madeSpecial, size[0], size[1], i)
		q := impl.Picture{Wide: p.Wide, High: p.High}
		for _, grey := range p.Greys {
			if grey != grey {
				grey = at(0xffaaaaaa)
			}
			q.Greys = append(q.Greys, grey)
		}
		want(t, "SamePicture", impl.SamePicture(p, q), true)
		for _, f := range pictureCalls() {
			a, okA := f.call(p)
			b, okB := f.call(q)
			want(t, f.name, textOfResult(b, okB), textOfResult(a, okA))
		}
	}
}
