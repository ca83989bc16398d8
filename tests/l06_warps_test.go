package tests

import (
	"fmt"
	"slices"
	"testing"

	"loop.example/g01223/impl"
)

func wantWarp(t *testing.T, what string, got []float32, ok bool, wanted ...float32) {
	t.Helper()
	want(t, what+" succeeds", ok, true)
	if !slices.Equal(bitsOfList(got), bitsOfList(wanted)) {
		t.Errorf("%s: got %v (%08x), want %v", what, got, bitsOfList(got), wanted)
	}
}

func wantNoWarp(t *testing.T, what string, got []float32, ok bool) {
	t.Helper()
	want(t, what+" succeeds", ok, false)
	want(t, what, len(got), 0)
}

// shift is the warp that leads to the next x.
var shift = []float32{1, 0, 1, 0, 1, 0, 0, 0, 1}

func TestIsWarp(t *testing.T) {
	for _, w := range [][]float32{
		shift, identity, make([]float32, 9),
		listOf(bitsMost, 0xff7fffff, 1, 0x80000001, bitsNull, 0, bitsOne, bitsHole, bitsWhole),
	} {
		want(t, fmt.Sprint("IsWarp ", w), impl.IsWarp(w), true)
	}
	for name, w := range invalidWarps() {
		want(t, "IsWarp: "+name, impl.IsWarp(w), false)
	}
}

func TestTimesWarp(t *testing.T) {
	up, down := []float32{1, 2, 3, 4, 5, 6, 7, 8, 9}, []float32{9, 8, 7, 6, 5, 4, 3, 2, 1}
	for _, c := range []struct {
		a, b, wanted []float32
	}{
		{up, down, []float32{30, 24, 18, 84, 69, 54, 138, 114, 90}},
		{down, up, []float32{90, 114, 138, 54, 69, 84, 18, 24, 30}},
		{identity, up, up}, {up, identity, up},
		{shift, shift, []float32{1, 0, 2, 0, 1, 0, 0, 0, 1}},
		{make([]float32, 9), up, make([]float32, 9)},
		// Sums go from left to right.
		{[]float32{1 << 24, 1, 1, 1, 1, 1 << 24, 1, 1 << 24, 1}, []float32{1, 0, 0, 1, 0, 0, 1, 0, 0}, []float32{1 << 24, 0, 0, 1<<24 + 2, 0, 0, 1 << 24, 0, 0}},
		{[]float32{1, 1, 1, 0, 0, 0, 0, 0, 0}, []float32{1 << 24, 1, 1, 1, 1, 1 << 24, 1, 1 << 24, 1}, []float32{1 << 24, 1<<24 + 2, 1 << 24, 0, 0, 0, 0, 0, 0}},
		// A product is rounded before it is added.
		{
			listOf(aboveOne, bitsHole, 0, bitsHole, aboveOne, 0, 0, bitsHole, aboveOne),
			listOf(aboveOne, squareOfIt, 0, squareOfIt, aboveOne, squareOfIt, 0, 0, aboveOne),
			listOf(0, 0x3a000800, 0xbf801000, 0x3a000800, 0, 0x3f801801, 0xbf801000, 0xbf800800, 0),
		},
		// A sum begins with its first product.
		{listOf(bitsNull, bitsNull, bitsNull, 0, bitsNull, bitsNull, bitsNull, bitsNull, 0), []float32{1, 0, 0, 1, 0, 0, 1, 0, 0}, listOf(bitsNull, bitsNull, bitsNull, 0, 0, 0, 0, 0, 0)},
	} {
		got, ok := impl.TimesWarp(c.a, c.b)
		wantWarp(t, fmt.Sprint("TimesWarp of ", c.a, " and ", c.b), got, ok, c.wanted...)
	}
	for what, pair := range map[string][2][]float32{
		"a product that is too great":     {listOf(bitsMost, 0, 0, 0, 0, 0, 0, 0, 0), listOf(bitsTwo, 0, 0, 0, 0, 0, 0, 0, 0)},
		"a sum that is too great":         {listOf(0, 0, 0, 0, 0, 0, bitsMost, bitsMost, 0), listOf(0, 0, bitsOne, 0, 0, bitsOne, 0, 0, 0)},
		"a sum that is none":              {listOf(0, 0, 0, bitsMost, bitsMost, 0, 0, 0, 0), listOf(0, bitsTwo, 0, 0, 0xc0000000, 0, 0, 0, 0)},
		"a product that is less than any": {listOf(0, 0, 0, 0, 0, 0, 0, 0, bitsMost), listOf(0, 0, 0, 0, 0, 0, 0, 0, 0xc0000000)},
	} {
		got, ok := impl.TimesWarp(pair[0], pair[1])
		wantNoWarp(t, "TimesWarp of "+what, got, ok)
	}
	for name, w := range invalidWarps() {
		for _, pair := range [][2][]float32{{w, identity}, {identity, w}, {w, w}, {w, make([]float32, 9)}} {
			got, ok := impl.TimesWarp(pair[0], pair[1])
			wantNoWarp(t, "TimesWarp: "+name, got, ok)
		}
	}
}

func TestOppositeWarp(t *testing.T) {
	for _, c := range []struct {
		w, wanted []float32
	}{
		{shift, []float32{1, 0, -1, 0, 1, 0, 0, 0, 1}},
		{identity, identity},
		{[]float32{2, 0, 0, 0, 4, 0, 0, 0, 8}, []float32{0.5, 0, 0, 0, 0.25, 0, 0, 0, 0.125}},
		{[]float32{1, 2, 3, 0, 1, 4, 5, 6, 0}, []float32{-24, 18, 5, 20, -15, -4, -5, 4, 1}},
		{[]float32{2, 3, 5, 7, 1, 4, 6, 8, 9}, []float32{-23.0 / 87, 13.0 / 87, 7.0 / 87, -39.0 / 87, -12.0 / 87, 27.0 / 87, 50.0 / 87, 2.0 / 87, -19.0 / 87}},
		// Each number is divided: 23353359 lies between two 32-bit numbers.
		{[]float32{49, 0, 272391, 0, 1, 0, 0, 4201, 1}, []float32{1.0 / 49, 23353360, -5559, 0, 1, 0, 0, -4201, 1}},
		// Zeros have the sign that t gives them.
		{[]float32{0, 1, 0, 1, 0, 0, 0, 0, 1}, listOf(bitsNull, bitsOne, bitsNull, bitsOne, bitsNull, bitsNull, bitsNull, bitsNull, bitsOne)},
		// 64-bit numbers are neither too great nor too near to 0.
		{[]float32{0x1p-40, 0, 0, 0, 0x1p-40, 0, 0, 0, 0x1p-40}, []float32{0x1p40, 0, 0, 0, 0x1p40, 0, 0, 0, 0x1p40}},
		{[]float32{0x1p100, 0, 0, 0, 0x1p100, 0, 0, 0, 0x1p100}, []float32{0x1p-100, 0, 0, 0, 0x1p-100, 0, 0, 0, 0x1p-100}},
		{[]float32{0x1p-126, 0, 0, 0, 0x1p-126, 0, 0, 0, 0x1p-126}, []float32{0x1p126, 0, 0, 0, 0x1p126, 0, 0, 0, 0x1p126}},
		// In 32 bits, both products would be the same.
		{
			listOf(0x3f800001, bitsOne, 0, bitsOne, 0x3f7ffffe, 0, 0, 0, bitsOne),
			listOf(0xd67ffffe, 0x56800000, bitsNull, 0x56800000, 0xd6800001, bitsNull, bitsNull, bitsNull, bitsOne),
		},
	} {
		got, ok := impl.OppositeWarp(c.w)
		wantWarp(t, fmt.Sprint("OppositeWarp of ", c.w), got, ok, c.wanted...)
	}
	for what, w := range map[string][]float32{
		"zeros":                          make([]float32, 9),
		"two equal rows":                 {1, 2, 3, 1, 2, 3, 4, 5, 7},
		"two equal columns":              {1, 1, 3, 2, 2, 5, 4, 4, 7},
		"rows that depend on each other": {1, 2, 3, 4, 5, 6, 7, 8, 9},
		"a row of zeros":                 {1, 2, 3, 0, 0, 0, 7, 8, 10},
		"a column of zeros":              {0, 2, 3, 0, 5, 6, 0, 8, 9},
		"a number that is too great":     listOf(1, 0, 0, 0, bitsOne, 0, 0, 0, bitsOne),
		"the last one that is too great": listOf(bitsOne, 0, 0, 0, bitsOne, 0, 0, 0, 0x00200000),
		"great and small numbers":        listOf(bitsOne, bitsMost, 0, 0, 0x00800000, 0, 0, 0, bitsOne),
	} {
		got, ok := impl.OppositeWarp(w)
		wantNoWarp(t, "OppositeWarp of "+what, got, ok)
	}
	for name, w := range invalidWarps() {
		got, ok := impl.OppositeWarp(w)
		wantNoWarp(t, "OppositeWarp: "+name, got, ok)
	}
}

func TestWarpPoint(t *testing.T) {
	half := []float32{1, 0, 0, 0, 1, 0, 0, 0, 2}
	for _, c := range []struct {
		w          []float32
		x, y, u, v uint32
	}{
		{shift, bitsTwo, bitsThree, bitsThree, bitsThree},
		{identity, bitsTwo, bitsThree, bitsTwo, bitsThree},
		{half, bitsTwo, bitsFour, bitsOne, bitsTwo},
		{[]float32{1, 2, 3, 4, 5, 6, 0, 0, 1}, bitsOne, bitsOne, 0x40c00000, 0x41700000},
		{[]float32{1, 0, 0, 0, 1, 0, 1, 1, 1}, bitsOne, bitsTwo, 0x3e800000, 0x3f000000},
		{[]float32{1, 0, 0, 0, 1, 0, 0, 0, -1}, bitsOne, bitsTwo, bitsHole, 0xc0000000},
		{[]float32{-1, 0, 0, 0, -1, 0, 0, 0, -1}, bitsOne, bitsTwo, bitsOne, bitsTwo},
		{[]float32{0, 0, 1, 0, 0, 2, 0, 0, 3}, bitsOne, bitsOne, 0x3eaaaaab, 0x3f2aaaab},
		{[]float32{0, 0, 3, 0, 0, 6, 0, 0, 7}, bitsOne, bitsOne, 0x3edb6db7, 0x3f5b6db7},
		// Sums go from left to right, and each product is rounded.
		{[]float32{1 << 24, 1, 1, 1, 1, 1 << 24, 0, 0, 1}, bitsOne, bitsOne, bitsWhole, 0x4b800001},
		{[]float32{1, 0, 0, 0, 1, 0, 1 << 24, 1, 1}, bitsOne, bitsOne, 0x33800000, 0x33800000},
		{[]float32{at(aboveOne), -1, 0, at(aboveOne), 0, -1, 0, 0, 1}, aboveOne, squareOfIt, 0, 0x3a000000},
		{listOf(bitsNull, bitsNull, bitsNull, bitsNull, bitsNull, 0, 0, 0, bitsOne), bitsOne, bitsOne, bitsNull, 0},
		// A third number that is too great leads to 0.
		{listOf(0, 0, bitsOne, 0, 0, bitsHole, bitsMost, 0, 0), bitsTwo, 0, 0, bitsNull},
		{identity, bitsMost, 0xff7fffff, bitsMost, 0xff7fffff},
	} {
		u, v, ok := impl.WarpPoint(c.w, at(c.x), at(c.y))
		what := fmt.Sprint("WarpPoint ", at(c.x), ", ", at(c.y), " with ", c.w)
		wantNumber(t, "x of "+what, u, ok, c.u)
		wantBits(t, "y of "+what, v, c.v)
	}
}

func TestWarpPointOfNothing(t *testing.T) {
	none := func(what string, u, v float32, ok bool) {
		t.Helper()
		wantNoNumber(t, "x of "+what, u, ok)
		wantBits(t, "y of "+what, v, 0)
	}
	for what, w := range map[string][]float32{
		"a third number of 0":           {1, 0, 0, 0, 1, 0, 0, 0, 0},
		"a third number of -0":          {1, 0, 0, 0, 1, 0, 0, 0, at(bitsNull)},
		"a third number that becomes 0": {1, 0, 0, 0, 1, 0, 1, 1, -3},
		"zeros":                         make([]float32, 9),
		"x that is too great":           listOf(bitsMost, 0, 0, 0, bitsOne, 0, 0, 0, 0x3f000000),
		"y that is too great":           listOf(bitsOne, 0, 0, 0, bitsMost, 0, 0, 0, 0x3f000000),
		"a third number that is little": listOf(bitsTwo, 0, 0, 0, bitsOne, 0, 0, 0, 0x00200000),
	} {
		u, v, ok := impl.WarpPoint(w, 1, 2)
		none("WarpPoint with "+what, u, v, ok)
	}
	for _, bits := range notFinite {
		for _, w := range [][]float32{identity, shift, {0, 0, 1, 0, 0, 1, 0, 0, 1}, {0, 0, 1, 0, 0, 1, 1, 1, 1}} {
			u, v, ok := impl.WarpPoint(w, at(bits), 1)
			none(fmt.Sprintf("WarpPoint x %08x", bits), u, v, ok)
			u, v, ok = impl.WarpPoint(w, 1, at(bits))
			none(fmt.Sprintf("WarpPoint y %08x", bits), u, v, ok)
		}
	}
	for name, w := range invalidWarps() {
		u, v, ok := impl.WarpPoint(w, 1, 1)
		none("WarpPoint: "+name, u, v, ok)
	}
}

// What a warp leads to, its opposite leads back, nearly.
func TestWarpsLeadBack(t *testing.T) {
	for _, size := range sizes() {
		s := madeScene(patchyEven, size[0], size[1])
		w := s.warps[1]
		back, ok := impl.OppositeWarp(w)
		want(t, "OppositeWarp succeeds", ok, true)
		for _, pair := range [][2][]float32{{w, back}, {back, w}} {
			product, ok := impl.TimesWarp(pair[0], pair[1])
			want(t, "TimesWarp succeeds", ok, true)
			for k, x := range product {
				wantNear(t, "number of TimesWarp", float64(x), float64(identity[k]), 1e-5)
			}
		}
		for i := range s.s {
			x, y := s.s[i]/64, s.t[i]/64
			u, v, ok := impl.WarpPoint(w, x, y)
			want(t, "WarpPoint succeeds", ok, true)
			again, down, ok := impl.WarpPoint(back, u, v)
			want(t, "WarpPoint succeeds", ok, true)
			wantNear(t, "x of WarpPoint back", float64(again), float64(x), 1e-4)
			wantNear(t, "y of WarpPoint back", float64(down), float64(y), 1e-4)
		}
	}
}

func TestBendPicture(t *testing.T) {
	pair, square := pictureOf(2, 1, 3), pictureOf(2, 1, 3, 5, 11)
	for _, c := range []struct {
		what   string
		w      []float32
		p      impl.Picture
		wanted impl.Picture
	}{
		{"the given warp", shift, pair, pictureOf(2, 3, 3)},
		{"the warp that leads nowhere", identity, square, square},
		{"a warp to the first cell", []float32{1, 0, -1, 0, 1, -1, 0, 0, 1}, square, pictureOf(2, 1, 1, 1, 1)},
		{"a warp to the middle", []float32{0, 0, 0.5, 0, 0, 0.5, 0, 0, 1}, square, pictureOf(2, 5, 5, 5, 5)},
		{"a warp that exchanges x and y", []float32{0, 1, 0, 1, 0, 0, 0, 0, 1}, square, pictureOf(2, 1, 5, 3, 11)},
		{"a warp that doubles", []float32{2, 0, 0, 0, 2, 0, 0, 0, 1}, pictureOf(4, 1, 2, 3, 4), pictureOf(4, 1, 3, 4, 4)},
		{"a warp that halves", []float32{1, 0, 0, 0, 1, 0, 0, 0, 2}, pictureOf(4, 1, 3, 7, 15), pictureOf(4, 1, 2, 3, 5)},
		{"a third number that grows", []float32{1, 0, 0, 0, 1, 0, 1, 0, 1}, pictureOf(2, 1, 3), pictureOf(2, 1, 2)},
		// Cells for which there is no place, or none near enough, have +0.
		{"a warp to nowhere", make([]float32, 9), square, pictureOf(2, 0, 0, 0, 0)},
		{"a third number of 0 at one cell", []float32{1, 0, 0, 0, 1, 0, 1, 0, -1}, pictureOf(3, 2, 4, 6), pictureOf(3, 2, 0, 6)},
		{"a place too far along x", []float32{1001, 0, 0, 0, 1, 0, 0, 0, 1}, pair, pictureOf(2, 1, 0)},
		{"a place that is far enough along x", []float32{1000, 0, 0, 0, 1, 0, 0, 0, 1}, pair, pictureOf(2, 1, 3)},
		{"a place too far along y", []float32{1, 0, 0, 0, -1001, 0, 0, 0, 1}, square, pictureOf(2, 1, 3, 0, 0)},
		{"a place that is far enough along y", []float32{1, 0, 0, 0, -1000, 0, 0, 0, 1}, square, pictureOf(2, 1, 3, 1, 3)},
		{"places that are too great", listOf(bitsMost, 0, 0, 0, bitsOne, 0, 0, 0, 0x3f000000), pair, pictureOf(2, 1, 0)},
		{"greys that are not finite", identity, pictureAt(3, nanBits, bitsOne, bitsInf), pictureAt(3, nanBits, nanBits, nanBits)},
	} {
		got, ok := impl.BendPicture(c.w, c.p)
		wantPicture(t, "BendPicture with "+c.what, got, ok, c.wanted)
	}
	for name, w := range invalidWarps() {
		got, ok := impl.BendPicture(w, square)
		wantNoPicture(t, "BendPicture: "+name, got, ok)
	}
}

// Warps that lead to the next cells are shifts, and those that lead to others
// turn pictures.
func TestBendPictureOfWholeSteps(t *testing.T) {
	for i, size := range sizes() {
		p := made([]int{madeEven, madeFew}[i%2], size[0], size[1], i)
		far := float32(size[0] - 1)
		got, ok := impl.BendPicture([]float32{-1, 0, far, 0, 1, 0, 0, 0, 1}, p)
		wantPicture(t, "BendPicture that mirrors", got, ok, turned(t, p, impl.MirrorPicture))
		for by := int64(-2); by <= 2; by++ {
			got, ok = impl.BendPicture([]float32{1, 0, float32(by), 0, 1, 0, 0, 0, 1}, p)
			shifted, _ := impl.ShiftPicture(p, by)
			wantPicture(t, "BendPicture that shifts", got, ok, shifted)
		}
	}
}
