package tests

import (
	"math"
	"testing"

	"loop.example/g01223/impl"
)

func TestMixVolumes(t *testing.T) {
	a, b := volumeOf(2, 2, 1, 2, 3, 4), volumeOf(2, 2, 5, -2, 3, 0)
	for _, c := range []struct {
		share  float32
		wanted impl.Volume
	}{
		{0.5, volumeOf(2, 2, 3, 0, 3, 2)},
		{0.25, volumeOf(2, 2, 4, -1, 3, 1)},
		{1, volumeOf(2, 2, 1, 2, 3, 4)},
		{0, volumeOf(2, 2, 5, -2, 3, 0)},
		{2, volumeOf(2, 2, -3, 6, 3, 8)},
		{-1, volumeOf(2, 2, 9, -6, 3, -4)},
		{at(nanBits), volumeAt(2, 2, nanBits, nanBits, nanBits, nanBits)},
	} {
		v, ok := impl.MixVolumes(a, b, c.share)
		wantVolume(t, "MixVolumes", v, ok, c.wanted)
	}
	for _, c := range []struct{ a, b, share, wanted uint32 }{
		// Both products are rounded before they are added.
		{bitsNear, bitsSquare, bitsNear, 0x3f8007ff},
		{bitsSquare, bitsNear, 0xb9800000, 0x3f8007ff},
		{0x40000000, 0x40400000, 0x3eaaaaab, 0x402aaaaa},
		{0x3f800000, 0x3f800000, 0x3dcccccd, 0x3f800000},
		{0x3dcccccd, 0x3e99999a, 0x3f19999a, 0x3e3851ec},
		{bitsNull, bitsNull, 0x3f000000, bitsNull},
		{bitsNull, 0, 0x3f000000, 0},
		{bitsNull, bitsNull, 0x40000000, 0},
		{1, 1, 0x3f000000, 0}, // halves of the least number are rounded to +0
		{3, 3, 0x3f000000, 4},
		{bitsMost, bitsMost, 0x40000000, bitsInf},
		{bitsMost, bitsMost, 0x40400000, nanBits},
		{bitsMost, 0, 0x40000000, bitsInf},
		{bitsInf, 0x3f800000, 0x3f800000, bitsInf},
		{bitsInf, 0x3f800000, 0, nanBits},
		{0x3f800000, bitsInf, 0x3f800000, nanBits},
		{bitsInf, bitsLess, 0x3f000000, nanBits},
		{bitsInf, bitsLess, 0x40000000, bitsInf},
		{nanBits, 0, 0, nanBits},
		{0, nanBits, 0x3f800000, nanBits},
		{0x3f800000, 0, bitsInf, nanBits},
		{0x3f800000, 0x3f800000, bitsInf, nanBits},
		{0x3f800000, 0xbf800000, bitsInf, bitsInf},
		// 1 less the share is rounded, too.
		{0, 0x3f800000, 0xb3000000, 0x3f800000},
		{0, 0x3f800000, 0xb3c00000, 0x3f800001},
	} {
		v, ok := impl.MixVolumes(volumeAt(1, 1, c.a), volumeAt(1, 1, c.b), at(c.share))
		wantVolume(t, "MixVolumes of one cost", v, ok, volumeAt(1, 1, c.wanted))
	}
}

func TestMixVolumesOfOtherSizes(t *testing.T) {
	v := countedVolume(4, 3, 2)
	for _, other := range []impl.Volume{countedVolume(3, 4, 2), countedVolume(4, 3, 1), countedVolume(4, 3, 3), countedVolume(4, 2, 2), countedVolume(2, 3, 4), countedVolume(4, 2, 3), countedVolume(3, 3, 2), {}} {
		u, ok := impl.MixVolumes(v, other, 0.5)
		wantNoVolume(t, "MixVolumes of other sizes", u, ok)
		u, ok = impl.MixVolumes(other, v, 0.5)
		wantNoVolume(t, "MixVolumes of other sizes", u, ok)
	}
	for _, short := range []impl.Volume{{Wide: 4, High: 3, Deep: 2}, {Wide: 4, High: 3, Deep: 2, Costs: make([]float32, 23)}, {Wide: 4, High: 3, Deep: 2, Costs: make([]float32, 25)}} {
		u, ok := impl.MixVolumes(v, short, 0.5)
		wantNoVolume(t, "MixVolumes with a volume that is not valid", u, ok)
		u, ok = impl.MixVolumes(short, v, 0.5)
		wantNoVolume(t, "MixVolumes of a volume that is not valid", u, ok)
	}
}

func TestCapVolume(t *testing.T) {
	v := volumeAt(3, 3, 0x3f800000, 0x40000000, 0x40400000, bitsNull, 0, nanBits, bitsInf, bitsLess, 0x80000001)
	for _, c := range []struct {
		most   uint32
		wanted impl.Volume
	}{
		{0x40000000, volumeAt(3, 3, 0x3f800000, 0x40000000, 0x40000000, bitsNull, 0, nanBits, 0x40000000, bitsLess, 0x80000001)},
		{0x3fffffff, volumeAt(3, 3, 0x3f800000, 0x3fffffff, 0x3fffffff, bitsNull, 0, nanBits, 0x3fffffff, bitsLess, 0x80000001)},
		{0, volumeAt(3, 3, 0, 0, 0, bitsNull, 0, nanBits, 0, bitsLess, 0x80000001)},
		{bitsNull, volumeAt(3, 3, bitsNull, bitsNull, bitsNull, bitsNull, 0, nanBits, bitsNull, bitsLess, 0x80000001)},
		{0x80000001, volumeAt(3, 3, 0x80000001, 0x80000001, 0x80000001, 0x80000001, 0x80000001, nanBits, 0x80000001, bitsLess, 0x80000001)},
		{bitsMost, volumeAt(3, 3, 0x3f800000, 0x40000000, 0x40400000, bitsNull, 0, nanBits, bitsMost, bitsLess, 0x80000001)},
		{bitsInf, v},
		{nanBits, v},
		{0xff800001, v},
		{bitsLess, volumeAt(3, 3, bitsLess, bitsLess, bitsLess, bitsLess, bitsLess, nanBits, bitsLess, bitsLess, bitsLess)},
	} {
		u, ok := impl.CapVolume(v, at(c.most))
		wantVolume(t, "CapVolume", u, ok, c.wanted)
	}
	u, ok := impl.CapVolume(countedVolume(16, 16, 8), 2000)
	want(t, "CapVolume succeeds", ok, true)
	wantBits(t, "a cost that is no greater", u.Costs[1999], bitsOf(2000))
	wantBits(t, "the last cost", u.Costs[2047], bitsOf(2000))
}

func TestBoxVolume(t *testing.T) {
	// Two slices: 9 0 0 / 0 0 0 and 0 0 18 / 0 0 0.
	v := volumeOf(3, 2, 9, 0, 0, 0, 0, 18, 0, 0, 0, 0, 0, 0)
	u, ok := impl.BoxVolume(v, 1)
	wantVolume(t, "BoxVolume 1", u, ok, volumeOf(3, 2, 4, 0, 2, 4, 0, 8, 2, 0, 1, 2, 0, 4))
	u, ok = impl.BoxVolume(v, 0)
	wantVolume(t, "BoxVolume 0", u, ok, v)
	// A disparity with costs that are no numbers leaves the others as they are.
	v = volumeAt(2, 3, nanBits, bitsInf, 0x40400000, 0, 0, 0x40400000)
	u, ok = impl.BoxVolume(v, 1)
	wantVolume(t, "BoxVolume of special costs", u, ok, volumeAt(2, 3, nanBits, bitsInf, 0x40400000, nanBits, bitsInf, 0x40400000))
	u, ok = impl.BoxVolume(volumeAt(1, 2, bitsNull, bitsLess), 0)
	wantVolume(t, "BoxVolume begins with +0", u, ok, volumeAt(1, 2, 0, bitsLess))
	for _, reach := range []int64{-1, 4, 5, math.MinInt64, math.MaxInt64} {
		u, ok := impl.BoxVolume(v, reach)
		wantNoVolume(t, "BoxVolume of no reach", u, ok)
	}
	for i, size := range sizes() {
		v := madeVolume(i%madeKinds, size[0], size[1], int64(1+i%8), i)
		reach := int64(i % 4)
		u, ok := impl.BoxVolume(v, reach)
		want(t, "BoxVolume succeeds", ok, true)
		for d := range v.Deep {
			slice, _ := impl.SliceOf(v, d)
			wanted, _ := impl.BoxPicture(slice, reach)
			got, ok := impl.SliceOf(u, d)
			wantPicture(t, "slice of BoxVolume", got, ok, wanted)
		}
	}
}

func TestOtherVolume(t *testing.T) {
	v := volumeOf(3, 3, 10, 11, 12, 20, 21, 22, 30, 31, 32, 40, 41, 42, 50, 51, 52, 60, 61, 62)
	u, ok := impl.OtherVolume(v)
	wantVolume(t, "OtherVolume", u, ok, volumeOf(3, 3,
		10, 21, 32, 20, 31, 32, 30, 31, 32,
		40, 51, 62, 50, 61, 62, 60, 61, 62))
	one := volumeAt(1, 4, bitsNull, nanBits, bitsInf, 1)
	u, ok = impl.OtherVolume(one)
	wantVolume(t, "OtherVolume of one cell", u, ok, one)
	column := volumeOf(1, 2, 1, 2, 3, 4, 5, 6)
	u, ok = impl.OtherVolume(column)
	wantVolume(t, "OtherVolume of a column", u, ok, column)
	flat := countedVolume(5, 4, 1)
	u, ok = impl.OtherVolume(flat)
	wantVolume(t, "OtherVolume of one disparity", u, ok, flat)
	u, ok = impl.OtherVolume(volumeAt(2, 2, 1, bitsNull, 2, nanBits))
	wantVolume(t, "OtherVolume of special costs", u, ok, volumeAt(2, 2, 1, nanBits, 2, nanBits))
	u, ok = impl.OtherVolume(countedVolume(2, 1, 8))
	wantVolume(t, "OtherVolume of more disparities than columns", u, ok,
		volumeOf(2, 8, 1, 10, 11, 12, 13, 14, 15, 16, 9, 10, 11, 12, 13, 14, 15, 16))
}

// From the right, pictures are exchanged and mirrored, where cells are not
// beyond the edge.
func TestOtherVolumeIsSeenFromTheRight(t *testing.T) {
	for i, size := range sizes() {
		deep := int64(1 + i%8)
		left := made(madeEven, size[0], size[1], i)
		right := made(madeEven, size[0], size[1], i+1000)
		v, _ := impl.SizeVolume(left, right, deep)
		other, ok := impl.OtherVolume(v)
		want(t, "OtherVolume succeeds", ok, true)
		seen, _ := impl.SizeVolume(turned(t, right, impl.MirrorPicture), turned(t, left, impl.MirrorPicture), deep)
		for y := range size[1] {
			for x := range size[0] {
				for d := range min(deep, size[0]-x) {
					a, _ := impl.CostAt(other, x, y, d)
					b, _ := impl.CostAt(seen, size[0]-1-x, y, d)
					wantBits(t, "cost seen from the right", a, bitsOf(b))
				}
			}
		}
	}
}

func TestShallowVolume(t *testing.T) {
	v := volumeAt(2, 3, 1, nanBits, 3, bitsNull, 5, bitsInf)
	u, ok := impl.ShallowVolume(v, 1)
	wantVolume(t, "ShallowVolume 1", u, ok, volumeAt(2, 1, 1, bitsNull))
	u, ok = impl.ShallowVolume(v, 2)
	wantVolume(t, "ShallowVolume 2", u, ok, volumeAt(2, 2, 1, nanBits, bitsNull, 5))
	u, ok = impl.ShallowVolume(v, 3)
	wantVolume(t, "ShallowVolume of all", u, ok, v)
	for _, deep := range append(noDepths, 4, 5, 8) {
		u, ok := impl.ShallowVolume(v, deep)
		wantNoVolume(t, "ShallowVolume of no depth", u, ok)
	}
	// Fewer disparities are those of pictures that are compared less deep.
	p, q := made(madeEven, 16, 16, 1), made(madeEven, 16, 16, 2)
	all, _ := impl.SquareVolume(p, q, 8)
	for deep := int64(1); deep <= 8; deep++ {
		wanted, _ := impl.SquareVolume(p, q, deep)
		u, ok := impl.ShallowVolume(all, deep)
		wantVolume(t, "ShallowVolume of the greatest", u, ok, wanted)
	}
}
