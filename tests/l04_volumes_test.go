package tests

import (
	"testing"

	"loop.example/g01223/impl"
)

func TestAddVolumes(t *testing.T) {
	v, ok := impl.AddVolumes(volumeOf(2, 2, 1, 2, 3, 4), volumeOf(2, 2, 5, -2, 0.5, 0))
	wantVolume(t, "AddVolumes", v, ok, volumeOf(2, 2, 6, 0, 3.5, 4))
	for _, c := range []struct{ a, b, wanted uint32 }{
		{0, 0, 0},
		{bitsNull, bitsNull, bitsNull},
		{0, bitsNull, 0},
		{bitsNull, 0, 0},
		{bitsOne, bitsHole, 0},
		{1, 1, 2},
		{0x007fffff, 1, 0x00800000},
		{bitsWhole, bitsOne, bitsWhole},
		{0x4b800001, bitsOne, 0x4b800002},
		{bitsMost, bitsMost, bitsInf},
		{bitsInf, bitsLess, nanBits},
		{bitsInf, bitsMost, bitsInf},
		{nanBits, bitsOne, nanBits},
		{bitsOne, 0xff800001, nanBits},
	} {
		v, ok := impl.AddVolumes(volumeAt(1, 1, c.a), volumeAt(1, 1, c.b))
		wantVolume(t, "AddVolumes of one cost", v, ok, volumeAt(1, 1, c.wanted))
	}
}

func TestAddVolumesOfOtherSizes(t *testing.T) {
	v := countedVolume(4, 3, 2)
	for _, other := range []impl.Volume{countedVolume(3, 4, 2), countedVolume(4, 3, 1), countedVolume(4, 2, 2), countedVolume(2, 3, 4), countedVolume(4, 2, 3), {}, {Wide: 4, High: 3, Deep: 2}, {Wide: 4, High: 3, Deep: 2, Costs: make([]float32, 23)}, {Wide: 4, High: 3, Deep: 2, Costs: make([]float32, 25)}} {
		u, ok := impl.AddVolumes(v, other)
		wantNoVolume(t, "AddVolumes of other sizes", u, ok)
		u, ok = impl.AddVolumes(other, v)
		wantNoVolume(t, "AddVolumes of other sizes", u, ok)
	}
	for name, bad := range invalidVolumes() {
		u, ok := impl.AddVolumes(bad, bad)
		wantNoVolume(t, "AddVolumes: "+name, u, ok)
	}
}

func TestScaleVolume(t *testing.T) {
	v := volumeAt(3, 3, bitsOne, bitsTwo, bitsHole, bitsNull, 0, nanBits, bitsInf, bitsLess, 3)
	for _, c := range []struct {
		by     uint32
		wanted impl.Volume
	}{
		{bitsOne, v},
		{bitsTwo, volumeAt(3, 3, bitsTwo, bitsFour, 0xc0000000, bitsNull, 0, nanBits, bitsInf, bitsLess, 6)},
		{bitsHole, volumeAt(3, 3, bitsHole, 0xc0000000, bitsOne, 0, bitsNull, nanBits, bitsLess, bitsInf, 0x80000003)},
		{0, volumeAt(3, 3, 0, 0, bitsNull, bitsNull, 0, nanBits, nanBits, nanBits, 0)},
		{0x3f000000, volumeAt(3, 3, 0x3f000000, bitsOne, 0xbf000000, bitsNull, 0, nanBits, bitsInf, bitsLess, 2)},
		{bitsInf, volumeAt(3, 3, bitsInf, bitsInf, bitsLess, nanBits, nanBits, nanBits, bitsInf, bitsLess, bitsInf)},
		{nanBits, volumeAt(3, 3, nanBits, nanBits, nanBits, nanBits, nanBits, nanBits, nanBits, nanBits, nanBits)},
	} {
		u, ok := impl.ScaleVolume(v, at(c.by))
		wantVolume(t, "ScaleVolume", u, ok, c.wanted)
	}
	u, ok := impl.ScaleVolume(volumeAt(1, 2, bitsNear, bitsMost), at(bitsNear))
	wantVolume(t, "ScaleVolume that is rounded", u, ok, volumeAt(1, 2, bitsSquare, bitsInf))
}

func TestPlacesOfCosts(t *testing.T) {
	v := volumeOf(3, 2, 1, 2, 3, 4, 5, 6, 7, 8, 9, 10, 11, 12)
	u, ok := impl.MirrorVolume(v)
	wantVolume(t, "MirrorVolume", u, ok, volumeOf(3, 2, 5, 6, 3, 4, 1, 2, 11, 12, 9, 10, 7, 8))
	u, ok = impl.FlipVolume(v)
	wantVolume(t, "FlipVolume", u, ok, volumeOf(3, 2, 7, 8, 9, 10, 11, 12, 1, 2, 3, 4, 5, 6))
	u, ok = impl.SwapVolume(v)
	wantVolume(t, "SwapVolume", u, ok, volumeOf(2, 2, 1, 2, 7, 8, 3, 4, 9, 10, 5, 6, 11, 12))
	for kind := range madeKinds {
		for i, size := range sizes() {
			v := madeVolume(kind, size[0], size[1], int64(1+(i+kind)%8), i)
			mirror := changed(t, v, impl.MirrorVolume)
			flip := changed(t, v, impl.FlipVolume)
			swap := changed(t, v, impl.SwapVolume)
			want(t, "Wide of SwapVolume", swap.Wide, v.High)
			want(t, "High of SwapVolume", swap.High, v.Wide)
			for y := range v.High {
				for x := range v.Wide {
					d := (x + y) % v.Deep
					wanted := bitsOf(costAt(v, x, y, d))
					wantBits(t, "cost of MirrorVolume", costAt(mirror, v.Wide-1-x, y, d), wanted)
					wantBits(t, "cost of FlipVolume", costAt(flip, x, v.High-1-y, d), wanted)
					wantBits(t, "cost of SwapVolume", costAt(swap, y, x, d), wanted)
				}
			}
			wantVolume(t, "MirrorVolume twice", changed(t, mirror, impl.MirrorVolume), true, v)
			wantVolume(t, "FlipVolume twice", changed(t, flip, impl.FlipVolume), true, v)
			wantVolume(t, "SwapVolume twice", changed(t, swap, impl.SwapVolume), true, v)
		}
	}
}
