package tests

import (
	"fmt"
	"math"
	"testing"

	"loop.example/g01223/impl"
)

func TestHalveMap(t *testing.T) {
	for _, c := range []struct {
		m, wanted impl.Map
	}{
		{mapOf(4, 1, -1, 3, 2), mapOf(2, 0.5, 1.5)},
		{mapOf(3, 1, 2, 3), mapOf(2, 0.5, 1.5)},
		{mapOf(1, 5), mapOf(1, 2.5)},
		{mapOf(1, -5), mapOf(1, -1)},
		{mapOf(1, 1, 2, 3, 4, 5), mapOf(1, 0.5, 1.5, 2.5)},
		{mapOf(3, 1, 2, 3, 4, 5, 6, 7, 8, 9), mapOf(2, 0.5, 1.5, 3.5, 4.5)},
		{mapOf(2, 1, 2, 3, 4, 5, 6, 7, 8), mapOf(1, 0.5, 2.5)},
		{mapOf(4, -0.25, 0, -2, 0), mapOf(2, -1, -1)},
		{mapAt(6, nanBits, 0, bitsLess, 0, bitsInf, 0), mapAt(3, bitsHole, bitsHole, bitsInf)},
		{mapAt(10, bitsNull, 0, 1, 0, 3, 0, bitsMost, 0, 0x80000001, 0), mapAt(5, bitsNull, 0, 2, 0x7effffff, bitsHole)},
	} {
		got, ok := impl.HalveMap(c.m)
		wantMap(t, fmt.Sprint("HalveMap of ", c.m.Wide, " wide ", c.m.Values), got, ok, c.wanted)
	}
	for _, hole := range allHoleBits() {
		got, ok := impl.HalveMap(mapAt(1, hole))
		wantMap(t, fmt.Sprintf("HalveMap of the hole %08x", hole), got, ok, mapOf(1, -1))
	}
	for _, size := range sizes() {
		m := countedMap(size[0], size[1])
		half, ok := impl.HalveMap(m)
		want(t, "HalveMap succeeds", ok, true)
		want(t, "size of HalveMap", [2]int64{half.Wide, half.High}, [2]int64{(size[0] + 1) / 2, (size[1] + 1) / 2})
		twice, ok := impl.DoubleMap(half, size[0], size[1])
		want(t, "DoubleMap succeeds", ok, true)
		for k, value := range twice.Values {
			x, y := int64(k)%size[0], int64(k)/size[0]
			wantBits(t, "DoubleMap of HalveMap", value, bitsOf(m.Values[x/2*2+y/2*2*size[0]]))
		}
	}
}

func TestDoubleMap(t *testing.T) {
	for _, c := range []struct {
		m, wanted impl.Map
	}{
		{mapOf(1, 1), mapOf(2, 2, 2)},
		{mapOf(2, 1, 2), mapOf(4, 2, 2, 4, 4)},
		{mapOf(2, 1, 2), mapOf(3, 2, 2, 4)},
		{mapOf(2, 1, 2), mapOf(1, 2, 2)},
		{mapOf(2, 1, -2), mapOf(7, 2, 2, -1, -1, -1, -1, -1)}, // the nearest one of m
		{mapOf(1, 1, 2), mapOf(2, 2, 2, 2, 2, 4, 4, 4, 4, 4, 4)},
		{mapOf(2, 1, 2, 3, 4), mapOf(5, 2, 2, 4, 4, 4, 2, 2, 4, 4, 4, 6, 6, 8, 8, 8, 6, 6, 8, 8, 8, 6, 6, 8, 8, 8)},
		{mapOf(3, 1, 2, 3), mapOf(1, 2)},
		{mapOf(1, -0.25), mapOf(1, -1)},
		{mapAt(4, nanBits, bitsLess, bitsInf, bitsMost), mapAt(8, bitsHole, bitsHole, bitsHole, bitsHole, bitsInf, bitsInf, bitsInf, bitsInf)},
		{mapAt(3, bitsNull, 1, 0x80000001), mapAt(6, bitsNull, bitsNull, 2, 2, bitsHole, bitsHole)},
	} {
		got, ok := impl.DoubleMap(c.m, c.wanted.Wide, c.wanted.High)
		wantMap(t, fmt.Sprint("DoubleMap of ", c.m.Wide, " wide ", c.m.Values), got, ok, c.wanted)
	}
	for _, hole := range allHoleBits() {
		got, ok := impl.DoubleMap(mapAt(1, hole), 1, 1)
		wantMap(t, fmt.Sprintf("DoubleMap of the hole %08x", hole), got, ok, mapOf(1, -1))
	}
	for _, bad := range [][2]int64{{0, 1}, {1, 0}, {-1, 1}, {1, -1}, {-2, -2}, {25, 1}, {1, 25}, {24, 11}, {16, 17}, {17, 16}, {math.MinInt64, 1}, {math.MaxInt64, math.MaxInt64}, {1 << 32, 1 << 32}} {
		got, ok := impl.DoubleMap(mapOf(4, 1, -1, 3, 2), bad[0], bad[1])
		wantNoMap(t, fmt.Sprint("DoubleMap with the size ", bad), got, ok)
	}
}

// nearestWinner tells a winner near a place in another way.
func nearestWinner(costs []float32, place, reach int64) float32 {
	winner := -1
	for d, cost := range costs {
		if place < 0 || int64(d) < place-reach || int64(d) > place+reach || cost != cost {
			continue
		}
		if winner < 0 || cost < costs[winner] {
			winner = d
		}
	}
	return float32(winner)
}

func TestWinnersNear(t *testing.T) {
	example := volumeOf(1, 3, 4, 1, 2)
	eight := volumeOf(1, 8, 5, 2, 7, 4, 1, 6, 3, 0)
	for _, c := range []struct {
		what   string
		v      impl.Volume
		value  uint32
		reach  int64
		wanted float32
	}{
		{"a place itself", example, bitsTwo, 0, 2},
		{"a place and those beside it", example, bitsTwo, 1, 1},
		{"the first place", example, 0, 0, 0},
		{"the first two places", example, 0, 1, 1},
		{"the place -0", example, bitsNull, 0, 0},
		{"a hole", example, bitsHole, 8, -1},
		{"a not-a-number", example, nanBits, 8, -1},
		{"an infinity", example, bitsInf, 8, -1},
		{"the negative infinity", example, bitsLess, 8, -1},
		// Values that are a little less than 0 are holes, but their place is 0.
		{"the place of -0.5", example, 0xbf000000, 0, 0},
		{"the place of -0.25", example, 0xbe800000, 1, 1},
		{"barely less than -0.5", example, 0xbf000001, 1, -1},
		{"the place of 1.5", example, 0x3fc00000, 0, 2},
		{"the place of 0.5", example, 0x3f000000, 0, 0},
		{"a place beyond the depth", example, bitsThree, 0, -1},
		{"a place beyond the depth and one before", example, bitsThree, 1, 2},
		{"a place beyond the depth and two before", example, bitsThree, 2, 1},
		{"a place far beyond the depth", example, 0x41200000, 7, -1},
		{"a place far beyond the depth, with the reach 8", example, 0x41200000, 8, 2},
		{"the place 24", eight, 0x41c00000, 8, -1},
		{"a place beyond MaxSide", eight, 0x42c80000, 8, -1},
		{"a place beyond all integers", eight, bitsMost, 8, -1},
		{"the place 15", eight, 0x41700000, 8, 7},
		{"the place 16", eight, 0x41800000, 8, -1},
		{"all places", eight, 0, 8, 7},
		{"places to 6", eight, bitsTwo, 4, 4},
		{"places from 5", eight, bitsSeven, 2, 7},
		{"places from 1 to 3", eight, bitsTwo, 1, 1},
		{"no numbers", volumeAt(1, 2, nanBits, nanBits), 0, 8, -1},
		{"no number near", volumeAt(1, 3, bitsOne, nanBits, nanBits), bitsTwo, 1, -1},
		{"a number beside one that is none", volumeAt(1, 3, bitsOne, nanBits, nanBits), bitsOne, 1, 0},
		{"equal costs", volumeOf(1, 4, 1, 1, 1, 1), bitsTwo, 1, 1},
		{"infinities", volumeAt(1, 4, bitsOne, bitsInf, bitsInf, bitsInf), bitsThree, 1, 2},
	} {
		got, ok := impl.WinnersNear(c.v, mapAt(1, c.value), c.reach)
		wantMap(t, "WinnersNear of "+c.what, got, ok, mapOf(1, c.wanted))
	}
	for _, reach := range []int64{-1, 9, 10, math.MinInt64, math.MaxInt64} {
		got, ok := impl.WinnersNear(example, mapOf(1, 2), reach)
		wantNoMap(t, fmt.Sprint("WinnersNear with the reach ", reach), got, ok)
	}
}

func TestWinnersNearPlaces(t *testing.T) {
	for i, size := range sizes() {
		deep, reach := int64(1+i%8), int64(i%9)
		v := madeVolume(i%madeKinds, size[0], size[1], deep, i)
		values, told := make([]float32, size[0]*size[1]), make([]float32, size[0]*size[1])
		for k := range values {
			c := places[(k+i)%len(places)]
			values[k] = at(c.value)
			told[k] = nearestWinner(v.Costs[int64(k)*deep:][:deep], c.place, reach)
		}
		got, ok := impl.WinnersNear(v, mapOf(size[0], values...), reach)
		wantMap(t, "WinnersNear places", got, ok, mapOf(size[0], told...))
		// With the reach 8, all disparities of a volume are near to each one.
		winners, _ := impl.WinnersOf(v)
		got, ok = impl.WinnersNear(v, zeroMap(v), 8)
		wantMap(t, "WinnersNear with the reach 8", got, ok, winners)
		got, ok = impl.WinnersNear(v, winners, 0)
		wantMap(t, "WinnersNear winners", got, ok, winners)
	}
}

func TestCoarseToFine(t *testing.T) {
	flat := pictureOf(2, 0, 0, 0, 0)
	for levels := int64(1); levels <= 4; levels++ {
		got, ok := impl.CoarseToFine(flat, flat, 2, levels)
		wantMap(t, "CoarseToFine of flat pictures", got, ok, mapOf(2, 0, 0, 0, 0))
		got, ok = impl.CoarseToFine(pictureOf(1, 3), pictureOf(1, 4), 8, levels)
		wantMap(t, "CoarseToFine of one cell", got, ok, mapOf(1, 0))
		got, ok = impl.CoarseToFine(pictureAt(1, nanBits), pictureOf(1, 4), 8, levels)
		wantMap(t, "CoarseToFine of a not-a-number", got, ok, mapOf(1, -1))
	}
	p := counted(5, 3)
	for _, levels := range []int64{0, -1, 5, 6, math.MinInt64, math.MaxInt64, 1 << 32} {
		got, ok := impl.CoarseToFine(p, p, 4, levels)
		wantNoMap(t, fmt.Sprint("CoarseToFine of levels: ", levels), got, ok)
	}
	for _, deep := range noDepths {
		for levels := int64(1); levels <= 4; levels++ {
			got, ok := impl.CoarseToFine(p, p, deep, levels)
			wantNoMap(t, fmt.Sprint("CoarseToFine with the depth ", deep), got, ok)
		}
	}
	// The halves have the greys 0, 0, 9, 0 and 4.5, 4.5, 0, 0, and the winners 0,
	// 0, 1, 0: the third cell does not look as far as 2.
	left := pictureOf(8, 0, 0, 0, 0, 9, 9, 0, 0)
	right := pictureOf(8, 0, 9, 9, 0, 0, 0, 0, 0)
	got, ok := impl.CoarseToFine(left, right, 8, 1)
	wantMap(t, "CoarseToFine of one level", got, ok, mapOf(8, 0, 1, 2, 0, 2, 3, 0, 0))
	got, ok = impl.CoarseToFine(left, right, 8, 2)
	wantMap(t, "CoarseToFine of two levels", got, ok, mapOf(8, 0, 1, 0, 0, 2, 3, 0, 0))
}

// coarse does what CoarseToFine is told to do with the functions of one level.
func coarse(t *testing.T, left, right impl.Picture, deep, levels int64) impl.Map {
	t.Helper()
	v, ok := impl.SquareVolume(left, right, deep)
	want(t, "SquareVolume succeeds", ok, true)
	if levels == 1 {
		m, ok := impl.WinnersOf(v)
		want(t, "WinnersOf succeeds", ok, true)
		return m
	}
	small := coarse(t, turned(t, left, impl.HalvePicture), turned(t, right, impl.HalvePicture), (deep+1)/2, levels-1)
	guess, ok := impl.DoubleMap(small, left.Wide, left.High)
	want(t, "DoubleMap succeeds", ok, true)
	m, ok := impl.WinnersNear(v, guess, 1)
	want(t, "WinnersNear succeeds", ok, true)
	return m
}

func TestLevelsOfCoarseToFine(t *testing.T) {
	for i, size := range sizes() {
		left, right := made(i%madeKinds, size[0], size[1], i), made(i%madeKinds, size[0], size[1], i+1)
		deep := int64(1 + i%8)
		for levels := int64(1); levels <= 4; levels++ {
			got, ok := impl.CoarseToFine(left, right, deep, levels)
			wantMap(t, "CoarseToFine", got, ok, coarse(t, left, right, deep, levels))
		}
	}
}

// A picture and itself, shifted evenly, have the shift as their disparity on
// all levels on which it can be halved.
func TestCoarseToFineOfAShiftedPicture(t *testing.T) {
	left := impl.Picture{Wide: 24, High: 10, Greys: make([]float32, 240)}
	for i := range left.Greys {
		x := i % 24
		left.Greys[i] = float32(x * x)
	}
	for _, by := range []int64{0, 4} {
		right, ok := impl.ShiftPicture(left, by)
		want(t, "ShiftPicture succeeds", ok, true)
		for levels := int64(1); levels <= 3; levels++ {
			got, ok := impl.CoarseToFine(left, right, 8, levels)
			want(t, "CoarseToFine succeeds", ok, true)
			for i, value := range got.Values {
				if x := i % 24; x >= 8 && x < 20 {
					want(t, fmt.Sprintf("CoarseToFine of a shift by %d, level %d, cell %d", by, levels, i), value, float32(by))
				}
			}
		}
	}
}
