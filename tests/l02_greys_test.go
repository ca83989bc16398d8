package tests

import (
	"math"
	"testing"

	"loop.example/g01223/impl"
)

const (
	bitsNear   = 0x3f800800 // 1 + 1/4096, whose square is rounded to bitsSquare
	bitsSquare = 0x3f801000 // 1 + 1/2048
	bitsLess   = 0xff800000 // the negative infinity
	bitsWhole  = 0x4b800000 // 16777216, to which 1 cannot be added
)

// partsPicture has the greys 1, 1/2, 1/3 and so on. What becomes of it below was
// computed by another program, with fractions that are rounded.
func partsPicture() impl.Picture {
	return pictureOf(4, parts(12)...)
}

func TestScalePicture(t *testing.T) {
	q, ok := impl.ScalePicture(partsPicture(), float32(1.0/3), float32(1.0/7))
	wantPicture(t, "ScalePicture", q, ok, pictureAt(4,
		0x3ef3cf3e, 0x3e9e79e8, 0x3e820821, 0x3e679e7a, 0x3e568d6a, 0x3e4b2cb4,
		0x3e430c32, 0x3e3cf3d0, 0x3e38362e, 0x3e346b47, 0x3e3150e7, 0x3e2ebaec))
	for _, c := range []struct {
		grey, by, add, wanted uint32
	}{
		{0x40000000, 0x40000000, 0x3f800000, 0x40a00000},
		{bitsNear, bitsNear, bitsSquare ^ bitsNull, 0}, // the product is rounded before it is added
		{bitsNear, bitsNear ^ bitsNull, bitsSquare, 0},
		{bitsMost, 0x40000000, 0xff7fffff, bitsInf},
		{bitsMost, 0x40000000, bitsLess, nanBits},
		{1, 0x3f000000, 1, 1},
		{3, 0x3f000000, 0, 2},
		{1, 0x3f000000, bitsNull, 0},
		{bitsNull, 0x3f800000, bitsNull, bitsNull},
		{bitsNull, 0x3f800000, 0, 0},
		{0, 0xbf800000, bitsNull, bitsNull},
		{bitsInf, 0, 1, nanBits},
		{bitsInf, 0x3f800000, bitsLess, nanBits},
		{bitsInf, 0xbf800000, 0x3f800000, bitsLess},
		{nanBits, 0, 0, nanBits},
		{0x3f800000, nanBits, 0, nanBits},
		{0x3f800000, 0x3f800000, 0xff800001, nanBits},
	} {
		q, ok := impl.ScalePicture(pictureAt(1, c.grey), at(c.by), at(c.add))
		wantPicture(t, "ScalePicture of one cell", q, ok, pictureAt(1, c.wanted))
	}
}

func TestLessPictures(t *testing.T) {
	back := pictureOf(4, reversed(parts(12))...)
	q, ok := impl.LessPictures(partsPicture(), back)
	wantPicture(t, "LessPictures", q, ok, pictureAt(4,
		0x3f6aaaab, 0x3ed1745d, 0x3e6eeef0, 0x3e0e38e4, 0x3d99999a, 0x3cc30c30,
		0xbcc30c30, 0xbd99999a, 0xbe0e38e4, 0xbe6eeef0, 0xbed1745d, 0xbf6aaaab))
	a := pictureAt(3, 0, bitsNull, bitsNull, bitsInf, bitsInf, bitsMost, bitsWhole, 1, nanBits)
	b := pictureAt(3, 0, bitsNull, 0, bitsInf, bitsLess, 0xff7fffff, 0xbf800000, 2, 0)
	q, ok = impl.LessPictures(a, b)
	wantPicture(t, "LessPictures of special greys", q, ok,
		pictureAt(3, 0, 0, bitsNull, nanBits, bitsInf, bitsInf, bitsWhole, 0x80000001, nanBits))
	for _, other := range []impl.Picture{counted(3, 4), counted(4, 2), counted(3, 3), counted(12, 1), counted(6, 2)} {
		q, ok := impl.LessPictures(counted(4, 3), other)
		wantNoPicture(t, "LessPictures of other sizes", q, ok)
		q, ok = impl.LessPictures(other, counted(4, 3))
		wantNoPicture(t, "LessPictures of other sizes", q, ok)
	}
}

func TestBoxPicture(t *testing.T) {
	p := partsPicture()
	q, ok := impl.BoxPicture(p, 0)
	wantPicture(t, "BoxPicture 0", q, ok, p)
	q, ok = impl.BoxPicture(p, 1)
	wantPicture(t, "BoxPicture 1", q, ok, pictureAt(4,
		0x3f1e573a, 0x3eed942e, 0x3e93fa95, 0x3e6a53fc, 0x3ec0ca46, 0x3e9676d1,
		0x3e4be6b0, 0x3e28d1d4, 0x3e09cc2c, 0x3dfd65d2, 0x3ddfb068, 0x3dce9f55))
	q, ok = impl.BoxPicture(p, 2)
	wantPicture(t, "BoxPicture 2", q, ok, pictureAt(4,
		0x3f047116, 0x3ed8b2d8, 0x3ea88385, 0x3e70a861, 0x3ec51d03, 0x3ea3b835,
		0x3e825368, 0x3e41dd33, 0x3e8157d9, 0x3e5d7b24, 0x3e384692, 0x3e1311fe))
	q, ok = impl.BoxPicture(p, 3)
	wantPicture(t, "BoxPicture 3", q, ok, pictureAt(4,
		0x3ef06198, 0x3ecfab8d, 0x3eaef57f, 0x3e8e3f72, 0x3ec2c66b, 0x3ea99c45,
		0x3e90721f, 0x3e6e8ff6, 0x3e952b3e, 0x3e838cff, 0x3e63dd83, 0x3e40a10c))
	for _, reach := range []int64{-1, 4, 5, math.MinInt64, math.MaxInt64} {
		q, ok := impl.BoxPicture(p, reach)
		wantNoPicture(t, "BoxPicture of no reach", q, ok)
	}
}

// The windows of greys that are integers have means without any rounding.
func TestBoxPictureAtTheEdges(t *testing.T) {
	for _, c := range []struct {
		reach     int64
		p, wanted impl.Picture
	}{
		{1, pictureOf(3, 0, 9, 0), pictureOf(3, 3, 3, 3)},
		{1, pictureOf(3, 9, 0, 0), pictureOf(3, 6, 3, 0)},
		{1, pictureOf(1, 9, 0, 0), pictureOf(1, 6, 3, 0)},
		{1, pictureOf(3, 9, 0, 0, 0, 0, 0, 0, 0, 0), pictureOf(3, 4, 2, 0, 2, 1, 0, 0, 0, 0)},
		{2, pictureOf(2, 25, 0), pictureOf(2, 15, 10)},
		{3, pictureOf(2, 49, 0), pictureOf(2, 28, 21)},
		{3, pictureOf(2, 49, 0, 0, 0), pictureOf(2, 16, 12, 12, 9)},
		{3, pictureOf(1, -5), pictureOf(1, -5)},
	} {
		q, ok := impl.BoxPicture(c.p, c.reach)
		wantPicture(t, "BoxPicture of integers", q, ok, c.wanted)
	}
}

func TestBoxPictureOfSpecialGreys(t *testing.T) {
	for reach := range int64(4) {
		for _, c := range []struct{ grey, wanted uint32 }{
			{bitsNull, 0}, {0, 0}, {bitsInf, bitsInf}, {bitsLess, bitsLess}, {0xff800001, nanBits},
		} {
			q, ok := impl.BoxPicture(pictureAt(1, c.grey), reach)
			wantPicture(t, "BoxPicture of one cell", q, ok, pictureAt(1, c.wanted))
		}
	}
	q, ok := impl.BoxPicture(pictureAt(1, bitsMost), 0)
	wantPicture(t, "BoxPicture of the greatest grey", q, ok, pictureAt(1, bitsMost))
	q, ok = impl.BoxPicture(pictureAt(1, bitsMost), 1)
	wantPicture(t, "BoxPicture of the greatest grey", q, ok, pictureAt(1, bitsInf))
	q, ok = impl.BoxPicture(pictureAt(6, bitsInf, 0, 0, bitsLess, 0, 0), 1)
	wantPicture(t, "BoxPicture of infinities", q, ok, pictureAt(6, bitsInf, bitsInf, bitsLess, bitsLess, bitsLess, 0))
	q, ok = impl.BoxPicture(pictureAt(4, bitsInf, 0, bitsLess, 0x41100000), 1)
	wantPicture(t, "BoxPicture of infinities", q, ok, pictureAt(4, bitsInf, nanBits, bitsLess, bitsLess))
	q, ok = impl.BoxPicture(pictureAt(5, nanBits, 0, 0, 0x41100000, 0x41100000), 1)
	wantPicture(t, "BoxPicture of a not-a-number", q, ok, pictureAt(5, nanBits, nanBits, 0x40400000, 0x40c00000, 0x41100000))
	// Sums go along rows: this one is 2, but down columns, or from behind, it is 3.
	p := pictureAt(3, 0x3f800000, bitsWhole, 0xcb800000, 0, 0, 0x3f800000, 0x3f800000, 0xcb800000, bitsWhole)
	q, ok = impl.BoxPicture(p, 1)
	want(t, "BoxPicture succeeds", ok, true)
	wantBits(t, "BoxPicture in order", q.Greys[4], 0x3e638e39)
	q, ok = impl.BoxPicture(turned(t, p, impl.SwapPicture), 1)
	want(t, "BoxPicture succeeds", ok, true)
	wantBits(t, "BoxPicture of the picture that is swapped", q.Greys[4], 0x3eaaaaab)
}

func TestBlurPicture(t *testing.T) {
	p := partsPicture()
	q, ok := impl.BlurPicture(p, 0)
	wantPicture(t, "BlurPicture 0", q, ok, p)
	q, ok = impl.BlurPicture(p, 1)
	wantPicture(t, "BlurPicture 1", q, ok, pictureAt(4,
		0x3f344444, 0x3ef5a35b, 0x3e9a79e8, 0x3e712493, 0x3eaeeeef, 0x3e82ceb9,
		0x3e3bf0ee, 0x3e1d6fee, 0x3e044444, 0x3df0ed9b, 0x3dd61f7a, 0x3dc531e0))
	q, ok = impl.BlurPicture(p, 2)
	wantPicture(t, "BlurPicture 2", q, ok, pictureAt(4,
		0x3f10ea93, 0x3eddd605, 0x3e976f40, 0x3e6ad655, 0x3eb5115d, 0x3e90373a,
		0x3e52d60a, 0x3e2c3bd8, 0x3e32f01e, 0x3e1c5ce8, 0x3e02e7ce, 0x3de99a0b))
	q, ok = impl.BlurPicture(p, 8)
	wantPicture(t, "BlurPicture 8", q, ok, pictureAt(4,
		0x3ea4fd3d, 0x3e98282b, 0x3e863e74, 0x3e737ca7, 0x3e97abda, 0x3e8c480c,
		0x3e78c21a, 0x3e628f31, 0x3e8a5b3c, 0x3e806896, 0x3e65085c, 0x3e51a29a))
	for _, rounds := range []int64{-1, 9, 10, math.MinInt64, math.MaxInt64} {
		q, ok := impl.BlurPicture(p, rounds)
		wantNoPicture(t, "BlurPicture of no rounds", q, ok)
	}
}

func TestBlurPictureOfFewCells(t *testing.T) {
	for _, c := range []struct {
		rounds    int64
		p, wanted impl.Picture
	}{
		{1, pictureOf(2, 1, 3), pictureOf(2, 1.5, 2.5)},
		{2, pictureOf(2, 1, 3), pictureOf(2, 1.75, 2.25)},
		{1, pictureOf(1, 1, 3), pictureOf(1, 1.5, 2.5)},
		{1, pictureOf(2, 0, 0, 0, 16), pictureOf(2, 1, 3, 3, 9)},
		{1, pictureOf(3, 0, 0, 0, 0, 16, 0, 0, 0, 0), pictureOf(3, 1, 2, 1, 2, 4, 2, 1, 2, 1)},
		{8, pictureOf(1, 5), pictureOf(1, 5)},
		{0, pictureAt(2, bitsNull, 0xff800001), pictureAt(2, bitsNull, nanBits)},
		{8, pictureAt(2, bitsNull, bitsNull), pictureAt(2, bitsNull, bitsNull)},
		{1, pictureAt(2, bitsNull, 0), pictureAt(2, 0, 0)},
		{1, pictureAt(1, bitsMost), pictureAt(1, bitsInf)}, // since the sum of two such is one
		{1, pictureAt(1, 1), pictureAt(1, 1)},
		{1, pictureAt(3, 1, 1, 0), pictureAt(3, 1, 0, 0)}, // half of 1 is rounded before it is added
		{1, pictureAt(4, nanBits, 0, 0, 0), pictureAt(4, nanBits, nanBits, 0, 0)},
		{2, pictureAt(4, nanBits, 0, 0, 0), pictureAt(4, nanBits, nanBits, nanBits, 0)},
		{1, pictureAt(4, bitsInf, 0, bitsLess, 0), pictureAt(4, bitsInf, nanBits, bitsLess, bitsLess)},
	} {
		q, ok := impl.BlurPicture(c.p, c.rounds)
		wantPicture(t, "BlurPicture of few cells", q, ok, c.wanted)
	}
}

func TestHalvePicture(t *testing.T) {
	for _, c := range []struct {
		p, wanted impl.Picture
	}{
		{partsPicture(), pictureAt(2, 0x3eeeeeef, 0x3e59e79f, 0x3dd82d83, 0x3db26c9c)},
		{pictureOf(2, 1, 3), pictureOf(1, 2)},
		{pictureOf(1, 1, 3), pictureOf(1, 2)},
		{pictureOf(1, 7), pictureOf(1, 7)},
		{pictureOf(3, 1, 2, 3, 4, 5, 6, 7, 8, 9), pictureOf(2, 3, 4.5, 7.5, 9)},
		{pictureOf(3, 1, 2, 3), pictureOf(2, 1.5, 3)},
		{pictureAt(1, bitsNull), pictureAt(1, bitsNull)},
		{pictureAt(2, bitsNull, 0, bitsNull, bitsNull), pictureAt(1, 0)},
		{pictureAt(1, bitsMost), pictureAt(1, bitsInf)},
		{pictureAt(1, nanBits), pictureAt(1, nanBits)},
		{pictureAt(2, bitsInf, bitsLess), pictureAt(1, nanBits)},
		{pictureAt(4, bitsInf, 0, 0, nanBits), pictureAt(2, bitsInf, nanBits)},
		{pictureAt(2, 1, 0, 0, 1), pictureAt(1, 0)},
		{pictureAt(2, 1, 1, 0, 1), pictureAt(1, 1)}, // a quarter of 3 is nearer to 1 than to 0
		{pictureAt(2, 1, 1, 1, 2), pictureAt(1, 1)},
		{pictureAt(2, 0x3f800000, bitsWhole, 0xcb800000, 0), pictureOf(1, 0)},
		{pictureAt(2, 0x3f800000, 0, 0xcb800000, bitsWhole), pictureOf(1, 0.25)},
		{pictureAt(2, bitsWhole, 0x3f800000, 0x3f800000, 0x3f800000), pictureOf(1, 4194304)},
		{pictureAt(2, 0x3f800000, 0x3f800000, 0x3f800000, bitsWhole), pictureOf(1, 4194305)},
	} {
		q, ok := impl.HalvePicture(c.p)
		wantPicture(t, "HalvePicture", q, ok, c.wanted)
	}
	for _, size := range sizes() {
		q, ok := impl.HalvePicture(counted(size[0], size[1]))
		want(t, "HalvePicture succeeds", ok, true)
		want(t, "size of HalvePicture", [2]int64{q.Wide, q.High}, [2]int64{(size[0] + 1) / 2, (size[1] + 1) / 2})
		want(t, "HalvePicture is valid", impl.ValidPicture(q), true)
	}
}

func TestPyramidOf(t *testing.T) {
	for _, p := range append(ofGreatest(madeEven), ofGreatest(madeAny)...) {
		for levels := int64(1); levels <= 5; levels++ {
			pyramid, ok := impl.PyramidOf(p, levels)
			want(t, "PyramidOf succeeds", ok, true)
			want(t, "levels", int64(len(pyramid)), levels)
			wantSamePicture(t, "first level", pyramid[0], p)
			for i := 1; i < len(pyramid); i++ {
				wantSamePicture(t, "a further level", pyramid[i], turned(t, pyramid[i-1], impl.HalvePicture))
			}
		}
		for _, levels := range []int64{0, 6, -1, 7, math.MinInt64, math.MaxInt64} {
			pyramid, ok := impl.PyramidOf(p, levels)
			want(t, "PyramidOf no levels succeeds", ok, false)
			want(t, "PyramidOf no levels", len(pyramid), 0)
		}
	}
	pyramid, ok := impl.PyramidOf(partsPicture(), 5)
	want(t, "PyramidOf succeeds", ok, true)
	wantSamePicture(t, "third level", pyramid[2], pictureAt(1, 0x3e5f44a2))
	wantSamePicture(t, "fifth level", pyramid[4], pictureAt(1, 0x3e5f44a2))
}

func TestSlopePicture(t *testing.T) {
	for _, c := range []struct {
		p, wanted impl.Picture
	}{
		{partsPicture(), pictureAt(4,
			0xbe800000, 0xbeaaaaaa, 0xbe000000, 0xbd2aaaac, 0xbc888888, 0xbcea0ea0,
			0xbcaaaaac, 0xbc124928, 0xbbb60b60, 0xbc257eb4, 0xbc088888, 0xbb783e10)},
		{pictureOf(2, 1, 3), pictureOf(2, 1, 1)},
		{pictureOf(3, 1, 3, 9, 4, 4, 0), pictureOf(3, 1, 4, 3, 0, -2, -2)},
		{pictureOf(1, 1, 3, 5), pictureOf(1, 0, 0, 0)},
		{pictureAt(1, bitsNull), pictureAt(1, 0)},
		{pictureAt(1, bitsInf), pictureAt(1, nanBits)},
		{pictureAt(1, nanBits), pictureAt(1, nanBits)},
		{pictureAt(2, 0, bitsNull), pictureAt(2, bitsNull, bitsNull)},
		{pictureAt(2, bitsNull, 0), pictureAt(2, 0, 0)},
		{pictureAt(2, 0xff7fffff, bitsMost), pictureAt(2, bitsInf, bitsInf)},
		{pictureAt(2, 0, 1), pictureAt(2, 0, 0)},
		{pictureAt(2, 1, 0), pictureAt(2, bitsNull, bitsNull)},
		{pictureAt(2, 0, 3), pictureAt(2, 2, 2)},
		{pictureAt(4, 0, nanBits, 0, bitsInf), pictureAt(4, nanBits, 0, nanBits, bitsInf)},
	} {
		q, ok := impl.SlopePicture(c.p)
		wantPicture(t, "SlopePicture", q, ok, c.wanted)
	}
}

func TestRangeOf(t *testing.T) {
	for _, c := range []struct {
		p               impl.Picture
		least, greatest uint32
	}{
		{pictureOf(3, 1, 2, 3, 4, 5, 6), 0x3f800000, 0x40c00000},
		{pictureOf(3, 6, 5, 4, 3, 2, 1), 0x3f800000, 0x40c00000},
		{pictureOf(1, -2), 0xc0000000, 0xc0000000},
		{pictureOf(2, -2, -3), 0xc0400000, 0xc0000000},
		{pictureAt(3, nanBits, 0x40000000, 0xff800001), 0x40000000, 0x40000000},
		{pictureAt(3, 0x40000000, nanBits, 0x40400000), 0x40000000, 0x40400000},
		{pictureAt(3, bitsInf, 0, bitsLess), bitsLess, bitsInf},
		{pictureAt(2, nanBits, bitsInf), bitsInf, bitsInf},
		{pictureAt(2, bitsLess, nanBits), bitsLess, bitsLess},
		{pictureAt(3, 1, 0x80000001, 0), 0x80000001, 1},
		{pictureAt(1, bitsNull), bitsNull, bitsNull},
		{pictureAt(2, 0xbf800000, bitsNull), 0xbf800000, bitsNull},
		{pictureAt(2, 0x3f800000, bitsNull), bitsNull, 0x3f800000},
		// The document chooses neither of both zeros: the first one stays.
		{pictureAt(2, 0, bitsNull), 0, 0},
		{pictureAt(3, nanBits, bitsNull, 0), bitsNull, bitsNull},
	} {
		least, greatest, ok := impl.RangeOf(c.p)
		wantNumber(t, "least grey of "+textOfPicture(c.p), least, ok, c.least)
		wantNumber(t, "greatest grey of "+textOfPicture(c.p), greatest, ok, c.greatest)
	}
	for _, p := range []impl.Picture{pictureAt(1, nanBits), pictureAt(2, 0xffc00000, 0x7f800001, 0xffffffff, nanBits)} {
		least, greatest, ok := impl.RangeOf(p)
		wantNoNumber(t, "least of not-a-numbers", least, ok)
		wantNoNumber(t, "greatest of not-a-numbers", greatest, ok)
		q, ok := impl.NormPicture(p)
		wantNoPicture(t, "NormPicture of not-a-numbers", q, ok)
	}
}

func TestNormPicture(t *testing.T) {
	for _, c := range []struct {
		p, wanted impl.Picture
	}{
		{partsPicture(), pictureAt(4,
			0x3f800000, 0x3ee8ba2e, 0x3e8ba2e9, 0x3e3a2e8b, 0x3e0253c8, 0x3dba2e8c,
			0x3d84fcad, 0x3d3a2e8b, 0x3cf83e0e, 0x3c94f209, 0x3c0767ab, 0)},
		{pictureOf(2, 2, 3), pictureOf(2, 0, 1)},
		{pictureOf(3, -1, 1, 3), pictureOf(3, 0, 0.5, 1)},
		{pictureOf(1, -5), pictureOf(1, 0)},
		{pictureOf(2, 4, 4), pictureOf(2, 0, 0)},
		{pictureAt(2, bitsNull, 0), pictureAt(2, 0, 0)},
		{pictureAt(2, 0, bitsNull), pictureAt(2, 0, 0)},
		{pictureAt(1, bitsNull), pictureAt(1, 0)},
		{pictureAt(2, nanBits, 0x40a00000), pictureAt(2, 0, 0)},
		{pictureAt(2, bitsInf, bitsInf), pictureAt(2, 0, 0)},
		{pictureAt(2, bitsLess, nanBits), pictureAt(2, 0, 0)},
		{pictureAt(3, 0x3f800000, nanBits, 0x40400000), pictureAt(3, 0, nanBits, 0x3f800000)},
		{pictureAt(3, 0, 0x3f800000, bitsInf), pictureAt(3, 0, 0, nanBits)},
		{pictureAt(3, bitsLess, 0, 0x3f800000), pictureAt(3, nanBits, nanBits, nanBits)},
		{pictureAt(2, 0xff7fffff, bitsMost), pictureAt(2, 0, nanBits)},
		{pictureAt(3, 1, 2, 3), pictureAt(3, 0, 0x3f000000, 0x3f800000)},
	} {
		q, ok := impl.NormPicture(c.p)
		wantPicture(t, "NormPicture of "+textOfPicture(c.p), q, ok, c.wanted)
	}
}

func TestCountUnlike(t *testing.T) {
	a := pictureOf(3, 1, 2, 3, 4, 5, 6)
	b := pictureOf(3, 1, 2.5, 4, 1, 9, 6)
	for _, c := range []struct {
		near  float32
		count int64
	}{
		{0, 4}, {at(bitsNull), 4}, {0.25, 4}, {0.5, 3}, {1, 2}, {3, 1}, {3.9999998, 1}, {4, 0}, {at(bitsInf), 0},
		{-1, 6}, {at(0x80000001), 6}, {at(bitsLess), 6}, {at(nanBits), 6}, {at(0x7f800001), 6},
	} {
		count, ok := impl.CountUnlike(a, b, c.near)
		want(t, "CountUnlike succeeds", ok, true)
		want(t, "CountUnlike", count, c.count)
		count, ok = impl.CountUnlike(b, a, c.near)
		want(t, "CountUnlike exchanged succeeds", ok, true)
		want(t, "CountUnlike exchanged", count, c.count)
	}
	for _, c := range []struct {
		a, b, near uint32
		unlike     int64
	}{
		{0, bitsNull, 0, 0},
		{nanBits, nanBits, bitsInf, 1},
		{nanBits, 0, bitsInf, 1},
		{bitsInf, bitsInf, bitsInf, 1},
		{bitsInf, bitsLess, bitsInf, 0},
		{bitsInf, 0, bitsMost, 1},
		{bitsMost, 0xff7fffff, bitsMost, 1},
		{bitsMost, 0xff7fffff, bitsInf, 0},
		{bitsWhole, 0xbf800000, bitsWhole, 0}, // the difference is rounded
		{bitsWhole, 0xc0000000, bitsWhole, 1},
		{1, 2, 1, 0},
		{1, 2, 0, 1},
		{1, 0x80000001, 1, 1},
		{1, 0x80000001, 2, 0},
	} {
		count, ok := impl.CountUnlike(pictureAt(1, c.a), pictureAt(1, c.b), at(c.near))
		want(t, "CountUnlike of one cell succeeds", ok, true)
		want(t, "CountUnlike of one cell", count, c.unlike)
	}
	for _, other := range []impl.Picture{counted(2, 3), counted(3, 1), counted(6, 1), counted(1, 6), counted(3, 3)} {
		count, ok := impl.CountUnlike(a, other, 100)
		want(t, "CountUnlike of other sizes succeeds", ok, false)
		want(t, "CountUnlike of other sizes", count, 0)
	}
	count, ok := impl.CountUnlike(counted(16, 16), turned(t, counted(16, 16), impl.MirrorPicture), 0)
	want(t, "CountUnlike of the greatest size succeeds", ok, true)
	want(t, "CountUnlike of the greatest size", count, 256)
}

// Promise 3: means stay between greys.
func TestMeansStayBetweenGreys(t *testing.T) {
	for i, size := range sizes() {
		for _, kind := range []int{madeEven, madeFew} {
			p := made(kind, size[0], size[1], i)
			least, greatest, ok := impl.RangeOf(p)
			want(t, "RangeOf succeeds", ok, true)
			for rounds := range int64(9) {
				q, ok := impl.BlurPicture(p, rounds)
				wantBetween(t, "BlurPicture", q, ok, least, greatest)
			}
			q, ok := impl.HalvePicture(p)
			wantBetween(t, "HalvePicture", q, ok, least, greatest)
			for reach := range int64(4) {
				q, ok := impl.BoxPicture(p, reach)
				wantBetween(t, "BoxPicture", q, ok, boxOf(t, least, reach), boxOf(t, greatest, reach))
			}
			q, ok = impl.NormPicture(p)
			wantBetween(t, "NormPicture", q, ok, 0, 1)
		}
	}
}

// boxOf returns the mean of equal greys, which is this grey but for rounding.
func boxOf(t *testing.T, grey float32, reach int64) float32 {
	q, ok := impl.BoxPicture(pictureOf(1, grey), reach)
	want(t, "BoxPicture succeeds", ok, true)
	want(t, "the mean of equal greys is near", math.Abs(float64(q.Greys[0]-grey)) <= 1e-5*float64(grey), true)
	return q.Greys[0]
}

func wantBetween(t *testing.T, what string, p impl.Picture, ok bool, least, greatest float32) {
	t.Helper()
	want(t, what+" succeeds", ok, true)
	for _, grey := range p.Greys {
		if !(least <= grey && grey <= greatest) {
			t.Errorf("%s of a picture from %v to %v has %v", what, least, greatest, grey)
		}
	}
}

// Windows are the same from all sides, where sums are not rounded.
func TestMeansAreTurnedWithPictures(t *testing.T) {
	for i, size := range sizes() {
		p := made(madeFew, size[0], size[1], i)
		for _, turn := range []func(impl.Picture) (impl.Picture, bool){impl.MirrorPicture, impl.FlipPicture, impl.SwapPicture} {
			for reach := range int64(4) {
				box, _ := impl.BoxPicture(p, reach)
				q, ok := impl.BoxPicture(turned(t, p, turn), reach)
				wantPicture(t, "BoxPicture of a turned picture", q, ok, turned(t, box, turn))
			}
			blur, _ := impl.BlurPicture(p, 2)
			q, ok := impl.BlurPicture(turned(t, p, turn), 2)
			wantPicture(t, "BlurPicture of a turned picture", q, ok, turned(t, blur, turn))
		}
	}
}
