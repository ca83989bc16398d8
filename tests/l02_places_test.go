package tests

import (
	"math"
	"testing"

	"loop.example/g01223/impl"
)

func TestValidPicture(t *testing.T) {
	for _, size := range sizes() {
		p := impl.Picture{Wide: size[0], High: size[1], Greys: make([]float32, size[0]*size[1])}
		want(t, "ValidPicture", impl.ValidPicture(p), true)
		p.Greys = p.Greys[:len(p.Greys)-1]
		want(t, "ValidPicture with a grey too few", impl.ValidPicture(p), false)
		p.Greys = make([]float32, size[0]*size[1]+1)
		want(t, "ValidPicture with a grey too many", impl.ValidPicture(p), false)
	}
	want(t, "how many sizes there are", len(sizes()), 452)
	want(t, "ValidPicture of special greys", impl.ValidPicture(pictureAt(8, specialBits[:40]...)), true)
	for name, p := range invalidPictures() {
		want(t, "ValidPicture: "+name, impl.ValidPicture(p), false)
	}
}

func TestSamePicture(t *testing.T) {
	for _, c := range []struct {
		what string
		a, b impl.Picture
		same bool
	}{
		{"a picture and itself", counted(3, 2), counted(3, 2), true},
		{"other sizes", counted(3, 2), counted(2, 3), false},
		{"other widths", impl.Picture{Wide: 1}, impl.Picture{}, false},
		{"other heights", impl.Picture{High: 1}, impl.Picture{}, false},
		{"another grey", pictureOf(3, 1, 2, 3), pictureOf(3, 1, 2, 4), false},
		{"zeros of both signs", pictureAt(2, 0, 0), pictureAt(2, 0, 0x80000000), false},
		{"zeros of a sign", pictureAt(1, 0x80000000), pictureAt(1, 0x80000000), true},
		{"not-a-numbers", pictureAt(2, nanBits, 0xff800001), pictureAt(2, 0x7fffffff, nanBits), true},
		{"a not-a-number and infinity", pictureAt(1, 0x7f800001), pictureAt(1, 0x7f800000), false},
		{"infinities", pictureAt(2, 0x7f800000, 0xff800000), pictureAt(2, 0x7f800000, 0xff800000), true},
		{"infinities of both signs", pictureAt(1, 0x7f800000), pictureAt(1, 0xff800000), false},
		{"numbers that follow one another", pictureAt(1, 0x3f800000), pictureAt(1, 0x3f800001), false},
		{"no greys", impl.Picture{}, impl.Picture{}, true},
		{"nil and empty", impl.Picture{Wide: 5}, impl.Picture{Wide: 5, Greys: []float32{}}, true},
		{"a grey more", impl.Picture{Greys: make([]float32, 1)}, impl.Picture{}, false},
		{"a grey +0 more", impl.Picture{Wide: 2, High: 2, Greys: make([]float32, 4)}, impl.Picture{Wide: 2, High: 2, Greys: make([]float32, 5)}, false},
		{"a row more", impl.Picture{Wide: 24, High: 1, Greys: make([]float32, 24)}, impl.Picture{Wide: 24, High: 1, Greys: make([]float32, 48)}, false},
	} {
		want(t, "SamePicture of "+c.what, impl.SamePicture(c.a, c.b), c.same)
		want(t, "SamePicture of "+c.what+", exchanged", impl.SamePicture(c.b, c.a), c.same)
	}
}

// Pictures need not be valid to be the same.
func TestSamePictureWhereNotValid(t *testing.T) {
	for name, p := range invalidPictures() {
		q := impl.Picture{Wide: p.Wide, High: p.High, Greys: append([]float32{}, p.Greys...)}
		want(t, "SamePicture: "+name, impl.SamePicture(p, q), true)
		for _, i := range []int{0, len(q.Greys) / 2, len(q.Greys) - 1} {
			if i < 0 || i >= len(q.Greys) {
				continue
			}
			kept := q.Greys[i]
			q.Greys[i] = 3
			want(t, "SamePicture with another grey: "+name, impl.SamePicture(p, q), false)
			q.Greys[i] = kept
		}
		q.Wide ^= 1
		want(t, "SamePicture with another width: "+name, impl.SamePicture(p, q), false)
		q.Wide, q.High = p.Wide, q.High^1
		want(t, "SamePicture with another height: "+name, impl.SamePicture(p, q), false)
	}
}

func TestSamePictureTellsEachGrey(t *testing.T) {
	for _, size := range sizes() {
		p := counted(size[0], size[1])
		q := counted(size[0], size[1])
		for i := range q.Greys {
			q.Greys[i] += 0.5
			if impl.SamePicture(p, q) || impl.SamePicture(q, p) {
				t.Errorf("size %v: the grey %d is another one, but the pictures are the same", size, i)
			}
			q.Greys[i] -= 0.5
		}
		want(t, "SamePicture", impl.SamePicture(p, q), true)
	}
}

func TestFlatPicture(t *testing.T) {
	for _, bits := range []uint32{0, 0x80000000, 0x3f800000, 0x7f800000, 0xff800000, nanBits, 1} {
		p, ok := impl.FlatPicture(2, 2, at(bits))
		wantPicture(t, "FlatPicture", p, ok, pictureAt(2, bits, bits, bits, bits))
	}
	for _, size := range sizes() {
		p, ok := impl.FlatPicture(size[0], size[1], -3)
		want(t, "FlatPicture succeeds", ok, true)
		want(t, "FlatPicture is valid", impl.ValidPicture(p), true)
		want(t, "width of FlatPicture", p.Wide, size[0])
		for _, grey := range p.Greys {
			wantBits(t, "FlatPicture", grey, 0xc0400000)
		}
	}
	for name, p := range invalidPictures() {
		if p.Wide > 0 && p.Wide < 4 && p.High > 0 && p.High < 4 {
			continue // its size is that of a picture
		}
		q, ok := impl.FlatPicture(p.Wide, p.High, 1)
		wantNoPicture(t, "FlatPicture: "+name, q, ok)
	}
}

// beside are numbers of which none is that of a row or a column.
var beside = []int64{-1, -2, 24, 25, math.MinInt64, math.MaxInt64, math.MinInt64 + 1, 1 << 62, -1 << 62, 1 << 32}

func TestGreyAtAndPutGrey(t *testing.T) {
	for _, size := range [][2]int64{{1, 1}, {3, 2}, {24, 10}, {1, 24}, {16, 16}} {
		p := counted(size[0], size[1])
		for y := range p.High {
			for x := range p.Wide {
				grey, ok := impl.GreyAt(p, x, y)
				wantNumber(t, "GreyAt", grey, ok, math.Float32bits(float32(1+x+size[0]*y)))
				wanted := counted(size[0], size[1])
				wanted.Greys[x+size[0]*y] = at(nanBits)
				q, ok := impl.PutGrey(p, x, y, at(nanBits))
				wantPicture(t, "PutGrey", q, ok, wanted)
			}
		}
		for _, cell := range besideOf(p) {
			grey, ok := impl.GreyAt(p, cell[0], cell[1])
			wantNoNumber(t, "GreyAt beside the picture", grey, ok)
			q, ok := impl.PutGrey(p, cell[0], cell[1], 1)
			wantNoPicture(t, "PutGrey beside the picture", q, ok)
		}
	}
	p := pictureAt(4, 0x80000000, nanBits, 0x7f800000, 1)
	for x, bits := range []uint32{0x80000000, nanBits, 0x7f800000, 1} {
		grey, ok := impl.GreyAt(p, int64(x), 0)
		wantNumber(t, "GreyAt of special greys", grey, ok, bits)
		q, ok := impl.PutGrey(pictureOf(1, 1), 0, 0, at(bits))
		wantPicture(t, "PutGrey of special greys", q, ok, pictureAt(1, bits))
	}
}

// besideOf returns numbers x, y that are those of no cell of p.
func besideOf(p impl.Picture) [][2]int64 {
	list := [][2]int64{{p.Wide, 0}, {0, p.High}, {p.Wide, p.High - 1}, {p.Wide - 1, p.High}, {p.Wide, -1}, {-1, p.High}}
	for _, n := range beside {
		list = append(list, [2]int64{n, 0}, [2]int64{0, n}, [2]int64{n, n}, [2]int64{p.Wide - 1, n}, [2]int64{n, p.High - 1})
	}
	return list
}

func TestTurnsOfFewCells(t *testing.T) {
	p := pictureAt(3, 1, 0x80000000, 3, 4, nanBits, 0x7f800000)
	q, ok := impl.MirrorPicture(p)
	wantPicture(t, "MirrorPicture", q, ok, pictureAt(3, 3, 0x80000000, 1, 0x7f800000, nanBits, 4))
	q, ok = impl.FlipPicture(p)
	wantPicture(t, "FlipPicture", q, ok, pictureAt(3, 4, nanBits, 0x7f800000, 1, 0x80000000, 3))
	q, ok = impl.SwapPicture(p)
	wantPicture(t, "SwapPicture", q, ok, pictureAt(2, 1, 4, 0x80000000, nanBits, 3, 0x7f800000))
	one := pictureAt(1, 0x80000001)
	for _, f := range []func(impl.Picture) (impl.Picture, bool){impl.MirrorPicture, impl.FlipPicture, impl.SwapPicture} {
		q, ok := f(one)
		wantPicture(t, "a cell that is turned", q, ok, one)
	}
}

// Promise 3: pictures that are turned are turned back.
func TestTurnedPicturesAreTurnedBack(t *testing.T) {
	for i, size := range sizes() {
		p := made(i%madeKinds, size[0], size[1], i)
		mirror := turned(t, p, impl.MirrorPicture)
		flip := turned(t, p, impl.FlipPicture)
		swap := turned(t, p, impl.SwapPicture)
		wantSamePicture(t, "mirrored twice", turned(t, mirror, impl.MirrorPicture), p)
		wantSamePicture(t, "flipped twice", turned(t, flip, impl.FlipPicture), p)
		wantSamePicture(t, "swapped twice", turned(t, swap, impl.SwapPicture), p)
		both := turned(t, mirror, impl.FlipPicture)
		wantSamePicture(t, "mirrored and flipped", both, turned(t, flip, impl.MirrorPicture))
		wantSamePicture(t, "mirrored and swapped", turned(t, mirror, impl.SwapPicture), turned(t, swap, impl.FlipPicture))
		wantSamePicture(t, "flipped and swapped", turned(t, flip, impl.SwapPicture), turned(t, swap, impl.MirrorPicture))
		for k := range p.Greys {
			x, y := int64(k)%p.Wide, int64(k)/p.Wide
			wantBits(t, "MirrorPicture", cellOf(mirror, p.Wide-1-x, y), bitsOf(p.Greys[k]))
			wantBits(t, "FlipPicture", cellOf(flip, x, p.High-1-y), bitsOf(p.Greys[k]))
			wantBits(t, "SwapPicture", cellOf(swap, y, x), bitsOf(p.Greys[k]))
			wantBits(t, "half a turn", both.Greys[len(p.Greys)-1-k], bitsOf(p.Greys[k]))
		}
	}
}

func TestShiftPicture(t *testing.T) {
	p := pictureOf(3, 1, 2, 3, 4, 5, 6)
	for _, c := range []struct {
		by    int64
		greys []float32
	}{
		{0, []float32{1, 2, 3, 4, 5, 6}},
		{1, []float32{2, 3, 3, 5, 6, 6}},
		{2, []float32{3, 3, 3, 6, 6, 6}},
		{3, []float32{3, 3, 3, 6, 6, 6}},
		{24, []float32{3, 3, 3, 6, 6, 6}},
		{-1, []float32{1, 1, 2, 4, 4, 5}},
		{-2, []float32{1, 1, 1, 4, 4, 4}},
		{-24, []float32{1, 1, 1, 4, 4, 4}},
	} {
		q, ok := impl.ShiftPicture(p, c.by)
		wantPicture(t, "ShiftPicture", q, ok, pictureOf(3, c.greys...))
	}
	for _, by := range []int64{25, -25, 26, math.MaxInt64, math.MinInt64, 1 << 40, -1 << 40} {
		q, ok := impl.ShiftPicture(p, by)
		wantNoPicture(t, "ShiftPicture too far", q, ok)
	}
	wide := counted(24, 10)
	for by := int64(-24); by <= 24; by++ {
		q, ok := impl.ShiftPicture(wide, by)
		want(t, "ShiftPicture succeeds", ok, true)
		for k := range q.Greys {
			x, y := int64(k)%24, int64(k)/24
			wantBits(t, "ShiftPicture", q.Greys[k], bitsOf(cellOf(wide, x+by, y)))
		}
		q, ok = impl.ShiftPicture(pictureAt(1, 0x80000000), by)
		wantPicture(t, "ShiftPicture of one cell", q, ok, pictureAt(1, 0x80000000))
	}
}

func TestCropPicture(t *testing.T) {
	for _, size := range [][2]int64{{1, 1}, {3, 2}, {4, 4}, {1, 5}, {6, 1}} {
		p := counted(size[0], size[1])
		for i := range int64(9 * 9 * 9 * 9) {
			x, y, wide, high := i%9-1, i/9%9-1, i/81%9-1, i/729-1
			q, ok := impl.CropPicture(p, x, y, wide, high)
			if x < 0 || y < 0 || wide < 1 || high < 1 || x+wide > p.Wide || y+high > p.High {
				wantNoPicture(t, "CropPicture beyond the picture", q, ok)
				continue
			}
			wanted := impl.Picture{Wide: wide, High: high}
			for v := y; v < y+high; v++ {
				wanted.Greys = append(wanted.Greys, p.Greys[x+v*p.Wide:x+v*p.Wide+wide]...)
			}
			wantPicture(t, "CropPicture", q, ok, wanted)
		}
	}
	p := counted(16, 16)
	q, ok := impl.CropPicture(p, 0, 0, 16, 16)
	wantPicture(t, "CropPicture of all", q, ok, p)
	q, ok = impl.CropPicture(p, 15, 15, 1, 1)
	wantPicture(t, "CropPicture of the last cell", q, ok, pictureOf(1, 256))
	for _, n := range beside {
		for _, c := range [][4]int64{{n, 0, 1, 1}, {0, n, 1, 1}, {0, 0, n, 1}, {0, 0, 1, n}, {1, 0, n, 1}, {0, 1, 1, n}, {15, 15, n, n}, {n, n, n, n}, {n, 0, -n, 1}, {0, n, 1, -n}} {
			q, ok := impl.CropPicture(p, c[0], c[1], c[2], c[3])
			wantNoPicture(t, "CropPicture beside the picture", q, ok)
		}
	}
}

func TestDoublePicture(t *testing.T) {
	for _, c := range []struct {
		p, wanted impl.Picture
	}{
		{pictureOf(2, 2, 3), pictureOf(4, 2, 2, 3, 3)},
		{pictureOf(2, 2, 3), pictureOf(3, 2, 2, 3)},
		{pictureOf(2, 2, 3), pictureOf(6, 2, 2, 3, 3, 3, 3)},
		{pictureOf(2, 2, 3), pictureOf(1, 2)},
		{pictureOf(2, 2, 3), pictureOf(1, 2, 2, 2)},
		{pictureOf(2, 1, 2, 3, 4), pictureOf(4, 1, 1, 2, 2, 1, 1, 2, 2, 3, 3, 4, 4, 3, 3, 4, 4)},
		{pictureOf(2, 1, 2, 3, 4), pictureOf(3, 1, 1, 2, 1, 1, 2, 3, 3, 4)},
		{pictureOf(2, 1, 2, 3, 4), pictureOf(2, 1, 1, 1, 1)},
		{pictureAt(1, nanBits), pictureAt(2, nanBits, nanBits, nanBits, nanBits)},
		{pictureAt(1, 0x80000000), pictureAt(1, 0x80000000)},
	} {
		q, ok := impl.DoublePicture(c.p, c.wanted.Wide, c.wanted.High)
		wantPicture(t, "DoublePicture", q, ok, c.wanted)
	}
	p := counted(5, 3)
	for _, size := range sizes() {
		q, ok := impl.DoublePicture(p, size[0], size[1])
		want(t, "DoublePicture succeeds", ok, true)
		want(t, "size of DoublePicture", [2]int64{q.Wide, q.High}, size)
		for k := range q.Greys {
			x, y := int64(k)%q.Wide, int64(k)/q.Wide
			wantBits(t, "DoublePicture", q.Greys[k], bitsOf(cellOf(p, x/2, y/2)))
		}
	}
	for name, size := range invalidPictures() {
		if size.Wide > 0 && size.Wide < 4 && size.High > 0 && size.High < 4 {
			continue // it is the size of a picture
		}
		q, ok := impl.DoublePicture(p, size.Wide, size.High)
		wantNoPicture(t, "DoublePicture: "+name, q, ok)
	}
}
