package tests

import (
	"testing"

	"loop.example/g01223/impl"
)

// wantWinners checks what is told of the winners of a volume of one row, whose
// cells have the same number of costs.
func wantWinners(t *testing.T, what string, v impl.Volume, winners, least, margins []uint32) {
	t.Helper()
	m, ok := impl.WinnersOf(v)
	wantMap(t, "WinnersOf "+what, m, ok, mapAt(v.Wide, winners...))
	m, ok = impl.LeastCosts(v)
	wantMap(t, "LeastCosts of "+what, m, ok, mapAt(v.Wide, least...))
	m, ok = impl.MarginsOf(v)
	wantMap(t, "MarginsOf "+what, m, ok, mapAt(v.Wide, margins...))
}

const (
	bitsTwo   = 0x40000000
	bitsThree = 0x40400000
	bitsFour  = 0x40800000
	bitsFive  = 0x40a00000
	bitsSix   = 0x40c00000
	bitsSeven = 0x40e00000
	bitsHole  = 0xbf800000 // -1
)

func TestWinnersOfOneCell(t *testing.T) {
	for _, c := range []struct {
		what                  string
		costs                 []uint32
		winner, least, margin uint32
	}{
		{"one cost", []uint32{bitsFive}, 0, bitsFive, bitsInf},
		{"increasing costs", []uint32{bitsOne, bitsThree, bitsFive}, 0, bitsOne, bitsTwo},
		{"decreasing costs", []uint32{bitsFive, bitsThree, bitsOne}, bitsTwo, bitsOne, bitsTwo},
		{"the least cost between others", []uint32{bitsFive, bitsOne, bitsFour}, bitsOne, bitsOne, bitsThree},
		{"the second one before others", []uint32{bitsFour, bitsOne, bitsFive}, bitsOne, bitsOne, bitsThree},
		{"costs below 0", []uint32{bitsHole, 0xc0000000, bitsOne}, bitsOne, 0xc0000000, bitsOne},
		{"eight costs", []uint32{bitsSeven, bitsSix, bitsFive, bitsFour, bitsSix, bitsThree, bitsSeven, bitsOne}, bitsSeven, bitsOne, bitsTwo},
		{"eight costs +0", []uint32{0, 0, 0, 0, 0, 0, 0, 0}, 0, 0, 0},
		{"equal costs", []uint32{bitsTwo, bitsTwo, bitsTwo}, 0, bitsTwo, 0},
		{"two least costs", []uint32{bitsFive, bitsTwo, bitsThree, bitsTwo}, bitsOne, bitsTwo, 0},
		{"the last two of four", []uint32{bitsFive, bitsThree, bitsTwo, bitsTwo}, bitsTwo, bitsTwo, 0},
		{"zeros of both signs", []uint32{0, bitsNull}, 0, 0, bitsNull},
		{"zeros of both signs, exchanged", []uint32{bitsNull, 0}, 0, bitsNull, 0},
		{"zeros behind another cost", []uint32{bitsOne, bitsNull, 0, bitsNull}, bitsOne, bitsNull, 0},
		{"zeros -0", []uint32{bitsNull, bitsNull}, 0, bitsNull, 0},
		{"subnormal costs", []uint32{3, 1, 2}, bitsOne, 1, 1},
		{"numbers that follow one another", []uint32{0x3f800001, bitsOne}, bitsOne, bitsOne, 0x34000000},
		{"a margin that is rounded", []uint32{bitsWhole, bitsHole}, bitsOne, bitsHole, bitsWhole},
		{"a margin that is too great", []uint32{bitsMost, 0xff7fffff}, bitsOne, 0xff7fffff, bitsInf},
		{"a not-a-number first", []uint32{nanBits, bitsThree, bitsFive}, bitsOne, bitsThree, bitsTwo},
		{"a not-a-number last", []uint32{bitsFive, bitsThree, 0xffc00000}, bitsOne, bitsThree, bitsTwo},
		{"a not-a-number behind the winner", []uint32{bitsOne, 0xff800001, bitsFive}, 0, bitsOne, bitsFour},
		{"not-a-numbers but one", []uint32{nanBits, nanBits, bitsThree, nanBits}, bitsTwo, bitsThree, bitsInf},
		{"not-a-numbers but the first one", []uint32{bitsThree, nanBits}, 0, bitsThree, bitsInf},
		{"equal costs between not-a-numbers", []uint32{nanBits, bitsThree, nanBits, bitsThree}, bitsOne, bitsThree, 0},
		{"one not-a-number", []uint32{0x7f800001}, bitsHole, bitsInf, bitsInf},
		{"eight not-a-numbers", []uint32{nanBits, nanBits, 0xffc00000, nanBits, 0x7f800001, nanBits, nanBits, 0xffffffff}, bitsHole, bitsInf, bitsInf},
		{"one infinity", []uint32{bitsInf}, 0, bitsInf, bitsInf},
		{"an infinity and a cost", []uint32{bitsInf, bitsFive}, bitsOne, bitsFive, bitsInf},
		{"an infinity and a not-a-number", []uint32{nanBits, bitsInf}, bitsOne, bitsInf, bitsInf},
		{"infinities", []uint32{bitsInf, bitsInf}, 0, bitsInf, nanBits},
		{"the negative infinity", []uint32{bitsFive, bitsLess}, bitsOne, bitsLess, bitsInf},
		{"negative infinities", []uint32{bitsOne, bitsLess, bitsLess}, bitsOne, bitsLess, nanBits},
		{"both infinities", []uint32{bitsInf, bitsLess}, bitsOne, bitsLess, bitsInf},
		{"one negative infinity", []uint32{bitsLess}, 0, bitsLess, bitsInf},
	} {
		v := volumeAt(1, int64(len(c.costs)), c.costs...)
		wantWinners(t, c.what, v, []uint32{c.winner}, []uint32{c.least}, []uint32{c.margin})
	}
}

// Cells are told on their own, also behind a cell whose costs are equal.
func TestWinnersOfCellsInARow(t *testing.T) {
	wantWinners(t, "equal cells", volumeAt(3, 2, bitsThree, bitsOne, bitsThree, bitsOne, bitsOne, bitsThree),
		[]uint32{bitsOne, bitsOne, 0}, []uint32{bitsOne, bitsOne, bitsOne}, []uint32{bitsTwo, bitsTwo, bitsTwo})
	wantWinners(t, "zeros of both signs", volumeAt(4, 2, bitsNull, 0, 0, bitsNull, 0, 0, bitsNull, bitsNull),
		[]uint32{0, 0, 0, 0}, []uint32{bitsNull, 0, 0, bitsNull}, []uint32{0, bitsNull, 0, 0})
	wantWinners(t, "not-a-numbers between", volumeAt(5, 2, nanBits, nanBits, nanBits, nanBits, bitsOne, 0, nanBits, 0, 0, 0),
		[]uint32{bitsHole, bitsHole, bitsOne, bitsOne, 0}, []uint32{bitsInf, bitsInf, 0, 0, 0}, []uint32{bitsInf, bitsInf, bitsOne, bitsInf, 0})
	wantWinners(t, "cells of one cost", volumeAt(6, 1, 0, bitsFive, nanBits, bitsInf, bitsLess, bitsNull),
		[]uint32{0, 0, bitsHole, 0, 0, 0},
		[]uint32{0, bitsFive, bitsInf, bitsInf, bitsLess, bitsNull},
		[]uint32{bitsInf, bitsInf, bitsInf, bitsInf, bitsInf, bitsInf})
	wantWinners(t, "one cost that moves on", volumeOf(3, 3, 0, 1, 1, 1, 0, 1, 1, 1, 0),
		[]uint32{0, bitsOne, bitsTwo}, []uint32{0, 0, 0}, []uint32{bitsOne, bitsOne, bitsOne})
}

func TestWinnersOfAllSizes(t *testing.T) {
	for i, size := range sizes() {
		for kind := range madeKinds {
			v := madeVolume(kind, size[0], size[1], int64(1+(i+kind)%8), i)
			winners, ok := impl.WinnersOf(v)
			want(t, "WinnersOf succeeds", ok, true)
			least, ok := impl.LeastCosts(v)
			want(t, "LeastCosts succeeds", ok, true)
			want(t, "maps are valid", impl.ValidMap(winners) && impl.ValidMap(least), true)
			for cell, winner := range winners.Values {
				wantWinner(t, v.Costs[int64(cell)*v.Deep:][:v.Deep], winner, least.Values[cell])
			}
		}
	}
}

// wantWinner checks the winner of some costs, and its cost.
func wantWinner(t *testing.T, costs []float32, winner, least float32) {
	t.Helper()
	if winner == -1 {
		wantBits(t, "least cost of none", least, bitsInf)
	} else {
		wantBits(t, "least cost", least, bitsOf(costs[int(winner)]))
	}
	for d, cost := range costs {
		if cost != cost {
			want(t, "a not-a-number wins", float32(d) == winner, false)
			continue
		}
		want(t, "no disparity wins", winner == -1, false)
		if cost < least || cost == least && float32(d) < winner {
			t.Errorf("the winner of %v is %v", costs, winner)
		}
	}
}

func TestWinnersThatDoNotExist(t *testing.T) {
	for name, v := range invalidVolumes() {
		for what, f := range map[string]func(impl.Volume) (impl.Map, bool){"WinnersOf": impl.WinnersOf, "LeastCosts": impl.LeastCosts, "MarginsOf": impl.MarginsOf} {
			m, ok := f(v)
			wantNoMap(t, what+": "+name, m, ok)
		}
	}
}

// farPicture returns a picture of a size whose greys are unlike in each row.
func farPicture(t *testing.T, wide, high int64, seed int) impl.Picture {
	p := made(madeEven, wide, high, seed)
	for y := range high {
		seen := map[float32]bool{}
		for _, grey := range p.Greys[y*wide:][:wide] {
			want(t, "two greys of a row are equal", seen[grey], false)
			seen[grey] = true
		}
	}
	return p
}

// shifted returns the right picture of a left one whose disparities are all by.
func shifted(t *testing.T, left impl.Picture, by int64) impl.Picture {
	return turned(t, left, func(p impl.Picture) (impl.Picture, bool) { return impl.ShiftPicture(p, by) })
}

// Promise 4: where the right picture is the left one shifted, the winners are
// just how far. The costs do not tell this in the columns by which it is
// shifted, whose cells are not in the right picture, and in the last one, which
// is there more than once.
func TestWinnersOfShiftedPictures(t *testing.T) {
	for i, size := range sizes() {
		left := farPicture(t, size[0], size[1], i)
		for by := range int64(8) {
			right := shifted(t, left, by)
			for _, deep := range []int64{by + 1, 8} {
				square, ok := impl.SquareVolume(left, right, deep)
				want(t, "SquareVolume succeeds", ok, true)
				wantHowFar(t, "SquareVolume", square, by, 0)
				bySize, ok := impl.SizeVolume(left, right, deep)
				want(t, "SizeVolume succeeds", ok, true)
				wantHowFar(t, "SizeVolume", bySize, by, 0)
			}
		}
	}
}

// wantHowFar checks the winners of a volume of shifted pictures, but for the
// first columns of the others.
func wantHowFar(t *testing.T, what string, v impl.Volume, by, first int64) {
	t.Helper()
	winners, _ := impl.WinnersOf(v)
	least, _ := impl.LeastCosts(v)
	margins, ok := impl.MarginsOf(v)
	want(t, "MarginsOf succeeds", ok, true)
	for k, winner := range winners.Values {
		x := int64(k) % v.Wide
		if x < by+first {
			continue
		}
		if x == v.Wide-1 && first == 0 {
			wantBits(t, what+": winner of the last column", winner, 0)
		} else if x < v.Wide-1 {
			wantBits(t, what+": winner", winner, bitsOf(float32(by)))
		}
		// The first column of the right picture is the nearest one for greater
		// disparities, too.
		if x > by && x < v.Wide-1 {
			want(t, what+": margin is greater than 0", margins.Values[k] > 0, true)
		}
		wantBits(t, what+": least cost", least.Values[k], 0)
	}
}

// Windows tell the same, where they do not reach the columns that are not in the
// right picture.
func TestWinnersOfShiftedPicturesInWindows(t *testing.T) {
	for i, size := range sizes() {
		by, reach := int64(i%8), int64(1+i/8%3)
		left := farPicture(t, size[0], size[1], i)
		v, _ := impl.SquareVolume(left, shifted(t, left, by), 8)
		box, ok := impl.BoxVolume(v, reach)
		want(t, "BoxVolume succeeds", ok, true)
		wantHowFar(t, "BoxVolume", box, by, reach)
	}
}

func TestRanksOfShiftedPictures(t *testing.T) {
	for i, size := range [][2]int64{{24, 10}, {16, 16}, {20, 12}} {
		left := farPicture(t, size[0], size[1], i)
		for by := range int64(8) {
			right := shifted(t, left, by)
			v, ok := impl.RankVolume(left, right, 2, 8)
			want(t, "RankVolume succeeds", ok, true)
			// Single ranks may be equal, but those of whole windows are not.
			box, _ := impl.BoxVolume(v, 1)
			winners, _ := impl.WinnersOf(box)
			for y := range size[1] {
				for x := by + 2; x < size[0]-2; x++ {
					cost, _ := impl.CostAt(v, x, y, by)
					wantBits(t, "cost of the same ranks", cost, 0)
					if x == by+2 || x == size[0]-3 {
						continue
					}
					winner, _ := impl.ValueAt(winners, x, y)
					wantBits(t, "winner of ranks", winner, bitsOf(float32(by)))
				}
			}
			// Ranks do not change with the light, and so costs do not.
			light, _ := impl.ScalePicture(right, 0.25, 0)
			u, ok := impl.RankVolume(left, light, 2, 8)
			wantVolume(t, "RankVolume in another light", u, ok, v)
		}
	}
}

// The winners lead back from the right picture to the left one.
func TestShiftedPicturesAreWarpedBack(t *testing.T) {
	for i, size := range sizes() {
		left := farPicture(t, size[0], size[1], i)
		by := int64(i % 8)
		right := shifted(t, left, by)
		truth, _ := impl.FlatMap(size[0], size[1], float32(by))
		inside := 0
		for k := range truth.Values {
			if int64(k)%size[0] < by {
				truth.Values[k] = -1
				continue
			}
			inside++
		}
		warp, ok := impl.WarpPicture(right, truth)
		want(t, "WarpPicture succeeds", ok, true)
		for k, grey := range warp.Greys {
			if truth.Values[k] < 0 {
				wantBits(t, "WarpPicture where there is no disparity", grey, 0)
			} else {
				wantBits(t, "WarpPicture", grey, bitsOf(left.Greys[k]))
			}
		}
		gap, ok := impl.ErrorOf(left, right, truth)
		want(t, "ErrorOf succeeds", ok, inside > 0)
		wantBits(t, "ErrorOf", gap, 0)
		v, _ := impl.SizeVolume(left, right, 8)
		cost, ok := impl.CostOfMap(v, truth)
		wantNumber(t, "CostOfMap", cost, ok, 0)
	}
}
