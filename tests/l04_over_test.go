package tests

import (
	"fmt"
	"testing"

	"loop.example/g01223/impl"
)

// Jumps over edges of the picture cost less, but never less than One.
func TestPricesOverAPicture(t *testing.T) {
	const great, eight, half = 0x42c80000, 0x41000000, 0x3f000000
	for _, c := range []struct {
		a, b, one, more uint32
		step, jump      uint32 // what one step and a greater jump cost
	}{
		{bitsTwo, bitsTwo, bitsOne, eight, bitsOne, eight},
		{0, bitsOne, bitsOne, eight, bitsOne, bitsFour},
		{bitsOne, 0, bitsOne, eight, bitsOne, bitsFour},
		{bitsHole, 0, bitsOne, eight, bitsOne, bitsFour},
		{bitsFour, bitsOne, bitsOne, eight, bitsOne, bitsTwo},
		{0, bitsSeven, bitsOne, eight, bitsOne, bitsOne},
		{0, 0x41700000, bitsOne, eight, bitsOne, bitsOne}, // a sixteenth of 8 is less than 1
		{0, 0x41700000, 0, eight, 0, half},
		{0, 0x41700000, bitsTwo, eight, bitsTwo, bitsTwo},
		{0, bitsTwo, bitsOne, eight, bitsOne, 0x402aaaab}, // a third of 8
		{0, bitsOne, bitsFive, bitsFive, bitsFive, bitsFive},
		{0, bitsOne, 0, 0, 0, 0},
		{0, bitsOne, 0, 1, 0, 0}, // half of the least number is rounded to 0
		{0, bitsInf, bitsOne, eight, bitsOne, bitsOne},
		{bitsLess, 0, bitsOne, eight, bitsOne, bitsOne},
		{bitsLess, bitsInf, bitsOne, eight, bitsOne, bitsOne},
		{bitsMost, 0xff7fffff, bitsOne, eight, bitsOne, bitsOne}, // the difference is too great
		{0, bitsInf, 0, eight, 0, 0},
		{bitsInf, bitsInf, bitsOne, eight, bitsOne, bitsOne}, // their difference is a not-a-number
		{nanBits, 0, bitsOne, eight, bitsOne, bitsOne},
		{0, 0xff800001, bitsTwo, eight, bitsTwo, bitsTwo},
		{nanBits, nanBits, 0, eight, 0, 0},
		{0, 1, bitsOne, eight, bitsOne, eight},         // 1 plus the least number is 1
		{0, bitsHalf, bitsOne, eight, bitsOne, eight},  // it is rounded to even
		{0, 0x33800001, 0, eight, 0, 0x40fffffe},       // and here not to 1
		{bitsWhole, bitsOne, 0, bitsWhole, 0, bitsOne}, // 1 plus 16777215
		{0, bitsWhole, 0, bitsWhole, 0, bitsOne},       // 1 is lost in 16777217
	} {
		v := volumeAt(2, 3, 0, great, great, 0, 0, 0)
		u, ok := impl.PathOver(v, pricesAt(c.one, c.more), pictureAt(2, c.a, c.b), 0)
		what := fmt.Sprintf("PathOver the greys %v and %v", at(c.a), at(c.b))
		wantVolume(t, what, u, ok, volumeAt(2, 3, 0, great, great, 0, c.step, c.jump))
		back := changed(t, v, impl.MirrorVolume)
		u, ok = impl.PathOver(back, pricesAt(c.one, c.more), pictureAt(2, c.a, c.b), 1)
		wantVolume(t, what+", back", u, ok, volumeAt(2, 3, 0, c.step, c.jump, 0, great, great))
	}
}

// The greys are those of the cell and of the cell before, on each way.
func TestPathOverEachWay(t *testing.T) {
	const size = 5
	p := impl.Prices{One: 1, More: 64}
	v := emptyVolume(size, size, 3)
	for i := range v.Costs {
		if i%3 > 0 {
			v.Costs[i] = 1000
		}
	}
	for kind := range madeKinds {
		over := made(kind, size, size, kind)
		for direction, step := range steps {
			u, ok := impl.PathOver(v, p, over, int64(direction))
			want(t, "PathOver succeeds", ok, true)
			for y := range int64(size) {
				for x := range int64(size) {
					fromX, fromY := x-step[0], y-step[1]
					if !isCell(v, fromX, fromY) {
						wantBits(t, "PathOver without a cell before", costAt(u, x, y, 2), bitsOf(1000))
						continue
					}
					gap := cellOf(over, x, y) - cellOf(over, fromX, fromY)
					if gap < 0 {
						gap = -gap
					}
					more := p.More / (1 + gap)
					if !(more >= p.One) {
						more = p.One
					}
					wantBits(t, fmt.Sprint("PathOver along ", direction), costAt(u, x, y, 2), bitsOf(1000+more))
					wantBits(t, fmt.Sprint("PathOver of one step along ", direction), costAt(u, x, y, 1), bitsOf(1001))
				}
			}
		}
	}
}

// Over a picture of one grey, paths are those of the prices.
func TestPathOverAFlatPicture(t *testing.T) {
	for kind := range madeKinds {
		for i, v := range volumesOfGreatest(kind) {
			p := madePrices(kind, i)
			flat, ok := impl.FlatPicture(v.Wide, v.High, 0.25)
			want(t, "FlatPicture succeeds", ok, true)
			for direction := range int64(8) {
				path, _ := impl.PathVolume(v, p, direction)
				over, ok := impl.PathOver(v, p, flat, direction)
				wantVolume(t, "PathOver one grey", over, ok, path)
				sum, _ := impl.SumPaths(v, p, direction+1)
				over, ok = impl.SumOver(v, p, flat, direction+1)
				wantVolume(t, "SumOver one grey", over, ok, sum)
			}
		}
	}
}

func TestSumOver(t *testing.T) {
	sum, ok := impl.SumOver(volumeAt(1, 2, bitsNull, bitsOne), impl.Prices{}, pictureOf(1, 5), 1)
	wantVolume(t, "SumOver of -0", sum, ok, volumeOf(1, 2, 0, 1))
	for kind := range madeKinds {
		for i, v := range volumesOfGreatest(kind) {
			p := madePrices(kind, i)
			over := made(kind, v.Wide, v.High, i+1)
			wanted := emptyVolume(v.Wide, v.High, v.Deep)
			for directions := int64(1); directions <= 8; directions++ {
				path, ok := impl.PathOver(v, p, over, directions-1)
				want(t, "PathOver succeeds", ok, true)
				for j, cost := range path.Costs {
					wanted.Costs[j] += cost
				}
				sum, ok := impl.SumOver(v, p, over, directions)
				wantVolume(t, fmt.Sprint("SumOver of ", directions), sum, ok, wanted)
			}
		}
	}
}

func TestPathOverOfOtherSizes(t *testing.T) {
	v := countedVolume(4, 3, 2)
	p := impl.Prices{One: 1, More: 2}
	list := []impl.Picture{counted(3, 4), counted(4, 2), counted(5, 3), counted(12, 1), counted(4, 6), {Wide: 4, High: 3, Greys: make([]float32, 24)}}
	for _, bad := range invalidPictures() {
		list = append(list, bad)
	}
	for _, over := range list {
		u, ok := impl.PathOver(v, p, over, 0)
		wantNoVolume(t, "PathOver a picture of another size", u, ok)
		u, ok = impl.SumOver(v, p, over, 1)
		wantNoVolume(t, "SumOver a picture of another size", u, ok)
	}
	for name, bad := range invalidVolumes() {
		over := impl.Picture{Wide: bad.Wide, High: bad.High, Greys: bad.Costs}
		u, ok := impl.PathOver(bad, p, over, 0)
		wantNoVolume(t, "PathOver: "+name, u, ok)
		u, ok = impl.SumOver(bad, p, over, 8)
		wantNoVolume(t, "SumOver: "+name, u, ok)
	}
}
