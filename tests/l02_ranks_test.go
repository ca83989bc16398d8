package tests

import (
	"math"
	"slices"
	"testing"

	"loop.example/g01223/impl"
)

func wantRank(t *testing.T, what string, p impl.Picture, x, y, reach, rank int64) {
	t.Helper()
	got, ok := impl.RankAt(p, x, y, reach)
	want(t, what+" succeeds", ok, true)
	want(t, what, got, rank)
}

func TestRankAt(t *testing.T) {
	p := pictureOf(3, 0, 0, 0, 0, 1, 2, 2, 2, 2)
	wantRank(t, "RankAt the middle", p, 1, 1, 1, 240)
	wantRank(t, "RankAt the first cell", p, 0, 0, 1, 0)
	wantRank(t, "RankAt the last cell", p, 2, 2, 1, 0b10000000)
	wantRank(t, "RankAt the end of the middle row", p, 2, 1, 1, 0b11110000)
	wantRank(t, "RankAt the beginning of the last row", p, 0, 2, 1, 0b11100000)
	wantRank(t, "RankAt the middle", p, 1, 1, 2, 0b111111111111000000000000)
	wantRank(t, "RankAt one cell", pictureOf(1, 5), 0, 0, 1, 0)
	wantRank(t, "RankAt one cell", pictureOf(1, 5), 0, 0, 2, 0)
	row := pictureOf(2, 1, 3)
	wantRank(t, "RankAt of a row", row, 0, 0, 1, 0)
	wantRank(t, "RankAt of a row", row, 1, 0, 1, 0b10010100)
	wantRank(t, "RankAt of a row", row, 1, 0, 2, 0b110001100011001100011000)
	column := pictureOf(1, 1, 3)
	wantRank(t, "RankAt of a column", column, 0, 1, 1, 0b11100000)
	wantRank(t, "RankAt of a column", column, 0, 1, 2, 0b111111111100000000000000)
}

// Each cell of the window but the middle has the digit of its place.
func TestDigitsOfRanks(t *testing.T) {
	for reach := int64(1); reach <= 2; reach++ {
		side := 2*reach + 1
		digit := side*side - 1
		for k := range side * side {
			p, _ := impl.FlatPicture(side, side, 1)
			if k == side*side/2 {
				p.Greys[k] = 2
				wantRank(t, "a rank above all others", p, reach, reach, reach, 1<<(side*side-1)-1)
				continue
			}
			digit--
			p.Greys[k] = 0
			wantRank(t, "a rank above one other", p, reach, reach, reach, 1<<digit)
			p.Greys[k] = 3
			wantRank(t, "a rank below one other", p, reach, reach, reach, 0)
		}
		want(t, "digits that are left", digit, 0)
	}
}

func TestRanksOfSpecialGreys(t *testing.T) {
	for _, c := range []struct {
		middle, other uint32
		less          bool
	}{
		{nanBits, 0, false}, {nanBits, bitsLess, false}, {0, nanBits, false}, {bitsInf, nanBits, false},
		{0, bitsNull, false}, {bitsNull, 0, false}, {1, 0, true}, {0, 0x80000001, true}, {bitsNull, 0x80000001, true},
		{1, bitsNull, true}, {2, 1, true}, {1, 2, false}, {bitsInf, bitsMost, true}, {bitsInf, bitsInf, false},
		{bitsMost, bitsInf, false}, {0xff7fffff, bitsLess, true}, {bitsLess, bitsLess, false}, {bitsInf, bitsLess, true},
		{0x3f800001, 0x3f800000, true}, {0x3f800000, 0x3f800001, false}, {0xbf800000, 0xbf800001, true},
	} {
		p := pictureAt(3, c.other, c.middle, c.other)
		for reach, all := range map[int64]int64{1: 0b10111101, 2: 0b110111101111111101111011} {
			rank := int64(0)
			if c.less {
				rank = all
			}
			wantRank(t, "RankAt special greys "+textOfPicture(p), p, 1, 0, reach, rank)
		}
	}
}

func TestRanksOf(t *testing.T) {
	p := pictureOf(3, 0, 0, 0, 0, 1, 2, 2, 2, 2)
	ranks, ok := impl.RanksOf(p, 1)
	wantList(t, "RanksOf", ranks, ok, 0, 0, 0, 0, 240, 240, 224, 192, 128)
	for i, size := range sizes() {
		p := made(i%madeKinds, size[0], size[1], i)
		for reach := int64(1); reach <= 2; reach++ {
			ranks, ok := impl.RanksOf(p, reach)
			want(t, "RanksOf succeeds", ok, true)
			want(t, "how many ranks there are", len(ranks), len(p.Greys))
			for k, rank := range ranks {
				wantRank(t, "RankAt", p, int64(k)%p.Wide, int64(k)/p.Wide, reach, rank)
			}
		}
	}
}

func TestRanksThatDoNotExist(t *testing.T) {
	p := counted(4, 3)
	for _, reach := range []int64{0, 3, -1, 4, -2, math.MinInt64, math.MaxInt64} {
		rank, ok := impl.RankAt(p, 1, 1, reach)
		want(t, "RankAt of no reach succeeds", ok, false)
		want(t, "RankAt of no reach", rank, 0)
		ranks, ok := impl.RanksOf(p, reach)
		want(t, "RanksOf of no reach succeeds", ok, false)
		want(t, "RanksOf of no reach", len(ranks), 0)
	}
	for _, cell := range besideOf(p) {
		rank, ok := impl.RankAt(p, cell[0], cell[1], 1)
		want(t, "RankAt beside the picture succeeds", ok, false)
		want(t, "RankAt beside the picture", rank, 0)
	}
}

// Promise 3: ranks do not change with the light.
func TestRanksDoNotChangeWithTheLight(t *testing.T) {
	for i, size := range sizes() {
		for reach := int64(1); reach <= 2; reach++ {
			few := made(madeFew, size[0], size[1], i)
			for _, light := range [][2]float32{{1, 100}, {2, 0}, {0.5, -7}, {1000, 3}, {0.0009765625, 0.5}, {at(0x7e000000), 0}} {
				wantSameRanks(t, few, light[0], light[1], reach)
			}
			even := made(madeEven, size[0], size[1], i)
			for _, by := range []float32{2, 0.5, 1024, at(0x0f800000), at(0x7e800000)} {
				wantSameRanks(t, even, by, 0, reach)
			}
			// Any greys that have the same order have the same ranks.
			cubes := impl.Picture{Wide: size[0], High: size[1]}
			for _, grey := range few.Greys {
				cubes.Greys = append(cubes.Greys, grey*grey*grey-9)
			}
			a, _ := impl.RanksOf(few, reach)
			b, ok := impl.RanksOf(cubes, reach)
			wantList(t, "ranks of cubes", b, ok, a...)
		}
	}
}

func wantSameRanks(t *testing.T, p impl.Picture, by, add float32, reach int64) {
	t.Helper()
	light, ok := impl.ScalePicture(p, by, add)
	want(t, "ScalePicture succeeds", ok, true)
	before, _ := impl.RanksOf(p, reach)
	ranks, ok := impl.RanksOf(light, reach)
	wantList(t, "ranks in another light", ranks, ok, before...)
}

// Two cells that are not equal have the digit of one another in one rank.
func TestRanksOfNegativesAreOthers(t *testing.T) {
	p := made(madeEven, 16, 16, 1)
	negative, _ := impl.ScalePicture(p, -1, 0)
	before, _ := impl.RanksOf(p, 1)
	ranks, ok := impl.RanksOf(negative, 1)
	want(t, "RanksOf succeeds", ok, true)
	want(t, "ranks are the same", slices.Equal(before, ranks), false)
	for y := int64(1); y < 15; y++ {
		for x := int64(1); x < 15; x++ {
			k := x + 16*y
			want(t, "digits that are different", impl.RankDistance(before[k], ranks[k]), 8)
		}
	}
}

func TestRankDistance(t *testing.T) {
	for _, c := range []struct{ a, b, distance int64 }{
		{5, 6, 2}, {-1, 0, 24}, {0, 0, 0}, {-1, -1, 0}, {240, 15, 8}, {16777215, 0, 24}, {-1, 16777215, 0},
		{16777216, 0, 0}, {-16777216, 0, 0}, {16777217, 0, 1}, {-16777215, 1, 0}, {-16777215, 0, 1}, {-2, 0, 23},
		{math.MinInt64, 0, 0}, {math.MaxInt64, 0, 24}, {math.MinInt64, math.MaxInt64, 24}, {math.MinInt64, -1, 24},
		{math.MinInt64 + 5, 0, 2}, {0x555555, 0xaaaaaa, 24}, {0x555555, -0x555556, 24}, {1 << 40, 1 << 30, 0},
	} {
		want(t, "RankDistance", impl.RankDistance(c.a, c.b), c.distance)
		want(t, "RankDistance exchanged", impl.RankDistance(c.b, c.a), c.distance)
	}
	for k := range 64 {
		distance := int64(0)
		if k < 24 {
			distance = 1
		}
		want(t, "RankDistance of one digit", impl.RankDistance(1<<k, 0), distance)
		want(t, "RankDistance of one digit", impl.RankDistance(-1<<k, -1<<k^1<<k), distance)
	}
	for i := range int64(4096) {
		a, b := i*2654435761-1<<40, i*i*40503-1<<33
		want(t, "RankDistance", impl.RankDistance(a, b), unlikeDigits(a, b))
	}
}

// unlikeDigits compares the digits of two numbers one by one.
func unlikeDigits(a, b int64) int64 {
	const all = 16777216
	a, b = (a%all+all)%all, (b%all+all)%all
	count := int64(0)
	for range 24 {
		if a%2 != b%2 {
			count++
		}
		a, b = a/2, b/2
	}
	return count
}
