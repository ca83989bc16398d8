package tests

import (
	"fmt"
	"math"
	"testing"

	"loop.example/g01223/impl"
)

// The tests of this file and of the other files of chapter 5 check promise 6:
// what is checked is told by both maps, holes are filled with values between
// the others, and nothing else changes.

func TestHolesOf(t *testing.T) {
	for _, bits := range allHoleBits() {
		holes, ok := impl.HolesOf(mapAt(1, bits))
		want(t, "HolesOf succeeds", ok, true)
		want(t, fmt.Sprintf("HolesOf %08x", bits), holes, 1)
	}
	for _, bits := range valueBits {
		holes, ok := impl.HolesOf(mapAt(1, bits))
		want(t, "HolesOf succeeds", ok, true)
		want(t, fmt.Sprintf("HolesOf %08x", bits), holes, 0)
	}
	for _, c := range []struct {
		m     impl.Map
		holes int64
	}{
		{mapOf(3, 1, -1, 3), 1},
		{mapOf(3, 0, 1, 2), 0},
		{mapOf(3, -1, 5, -1, -1, 0, -2), 4},
		{mapAt(4, nanBits, bitsInf, bitsLess, bitsNull), 2},
	} {
		holes, ok := impl.HolesOf(c.m)
		want(t, "HolesOf succeeds", ok, true)
		want(t, fmt.Sprint("HolesOf ", c.m.Values), holes, c.holes)
	}
	for _, size := range sizes() {
		for _, value := range []float32{-1, 0} {
			flat, _ := impl.FlatMap(size[0], size[1], value)
			holes, ok := impl.HolesOf(flat)
			want(t, "HolesOf succeeds", ok, true)
			want(t, "HolesOf a flat map", holes, size[0]*size[1]*int64(-value))
		}
	}
}

func TestRangeAndMeanOfMap(t *testing.T) {
	for _, c := range []struct {
		values                []uint32
		least, greatest, mean uint32
	}{
		{[]uint32{bitsOne, bitsHole, bitsThree}, bitsOne, bitsThree, bitsTwo},
		{[]uint32{bitsHole, nanBits, bitsSeven, bitsLess}, bitsSeven, bitsSeven, bitsSeven},
		{[]uint32{bitsInf}, bitsInf, bitsInf, bitsInf},
		{[]uint32{bitsInf, bitsOne}, bitsOne, bitsInf, bitsInf},
		{[]uint32{bitsThree, bitsSeven, bitsTwo}, bitsTwo, bitsSeven, bitsFour},
		{[]uint32{bitsMost, bitsMost}, bitsMost, bitsMost, bitsInf},
		{[]uint32{1, 2, 0x80000001}, 1, 2, 2}, // the half of 3 is rounded to an even one
		// The first one of zeros stays, and sums begin with +0.
		{[]uint32{bitsNull}, bitsNull, bitsNull, 0},
		{[]uint32{bitsNull, 0}, bitsNull, bitsNull, 0},
		{[]uint32{0, bitsNull}, 0, 0, 0},
		// Sums go in order, and each one is rounded.
		{[]uint32{bitsWhole, bitsOne, bitsOne, bitsHole, 0}, 0, bitsWhole, 0x4a800000},
		{[]uint32{bitsOne, bitsHole, bitsOne, bitsWhole, 0}, 0, bitsWhole, 0x4a800001},
		// The third of 10 is rounded.
		{[]uint32{bitsThree, bitsThree, bitsFour}, bitsThree, bitsFour, 0x40555555},
	} {
		for _, m := range []impl.Map{mapAt(int64(len(c.values)), c.values...), mapAt(1, c.values...)} {
			least, greatest, ok := impl.RangeOfMap(m)
			wantNumber(t, fmt.Sprint("least of RangeOfMap ", m.Values), least, ok, c.least)
			wantBits(t, fmt.Sprint("greatest of RangeOfMap ", m.Values), greatest, c.greatest)
			mean, ok := impl.MeanOfMap(m)
			wantNumber(t, fmt.Sprint("MeanOfMap ", m.Values), mean, ok, c.mean)
		}
	}
	mean, ok := impl.MeanOfMap(countedMap(16, 16))
	wantNumber(t, "MeanOfMap of the greatest", mean, ok, bitsOf(128.5))
	least, greatest, ok := impl.RangeOfMap(countedMap(16, 16))
	wantNumber(t, "least of the greatest", least, ok, bitsOne)
	wantBits(t, "greatest of the greatest", greatest, bitsOf(256))
}

func TestRangeAndMeanOfHoles(t *testing.T) {
	for _, size := range sizes() {
		m := impl.Map{Wide: size[0], High: size[1]}
		for i := range size[0] * size[1] {
			m.Values = append(m.Values, at(holeBits[i%4]))
		}
		least, greatest, ok := impl.RangeOfMap(m)
		wantNoNumber(t, "least of holes", least, ok)
		wantBits(t, "greatest of holes", greatest, 0)
		mean, ok := impl.MeanOfMap(m)
		wantNoNumber(t, "mean of holes", mean, ok)
		// One value is enough.
		m.Values[len(m.Values)-1] = 3
		least, greatest, ok = impl.RangeOfMap(m)
		wantNumber(t, "least of one value", least, ok, bitsThree)
		wantBits(t, "greatest of one value", greatest, bitsThree)
		mean, ok = impl.MeanOfMap(m)
		wantNumber(t, "mean of one value", mean, ok, bitsThree)
	}
}

func TestCountValues(t *testing.T) {
	m := mapAt(4, bitsNull, 0, bitsOne, bitsTwo, bitsThree, bitsHole, nanBits, bitsInf)
	for _, c := range []struct {
		limits []float32
		wanted []int64
	}{
		{nil, []int64{6}},
		{[]float32{}, []int64{6}},
		{[]float32{0}, []int64{0, 6}},
		{[]float32{at(bitsNull)}, []int64{0, 6}},
		{[]float32{1}, []int64{2, 4}},
		{[]float32{2}, []int64{3, 3}},
		{[]float32{at(0x3fffffff), 2, at(0x40000001)}, []int64{3, 0, 1, 2}},
		{[]float32{-2, -1, at(0x80000001), 0, at(1), 1, 2}, []int64{0, 0, 0, 0, 2, 0, 1, 3}},
		{[]float32{-3, -2}, []int64{0, 0, 6}},
		{[]float32{1, 2, 3, 4}, []int64{2, 1, 1, 1, 1}},
		{[]float32{at(bitsMost)}, []int64{5, 1}},
		{[]float32{at(0xff7fffff), at(bitsMost)}, []int64{0, 5, 1}},
	} {
		counts, ok := impl.CountValues(m, c.limits)
		wantList(t, fmt.Sprint("CountValues of ", c.limits), counts, ok, c.wanted...)
	}
	counts, ok := impl.CountValues(mapOf(3, -1, -2, -3), []float32{-2.5, 7})
	wantList(t, "CountValues of holes", counts, ok, 0, 0, 0)
	counts, ok = impl.CountValues(mapOf(1, 7), nil)
	wantList(t, "CountValues of one cell", counts, ok, 1)
	for _, limits := range [][]float32{
		{1, 1}, {2, 1}, {1, 2, 2}, {1, 3, 2}, {0, at(bitsNull)}, {at(bitsNull), 0}, {-1, -2},
		{at(nanBits)}, {at(bitsInf)}, {at(bitsLess)}, {1, at(bitsInf)}, {at(bitsLess), 1}, {1, at(nanBits), 2}, {1, 2, at(0xff800001)},
	} {
		counts, ok := impl.CountValues(m, limits)
		want(t, fmt.Sprint("CountValues of ", limits, " succeeds"), ok, false)
		want(t, "counts of CountValues that fails", len(counts), 0)
	}
}

func TestCountValuesOfManyLimits(t *testing.T) {
	m := countedMap(16, 16)
	for _, count := range []int{1, 2, 63, 64, 65, 255, 256} {
		limits := make([]float32, count)
		wanted := make([]int64, count+1)
		for i := range limits {
			limits[i] = float32(i) + 1.5
			wanted[i] = 1
		}
		wanted[count] = int64(256 - count)
		counts, ok := impl.CountValues(m, limits)
		wantList(t, fmt.Sprint("CountValues of limits: ", count), counts, ok, wanted...)
	}
	for _, count := range []int{257, 258, 1000} {
		limits := make([]float32, count)
		for i := range limits {
			limits[i] = float32(i)
		}
		counts, ok := impl.CountValues(m, limits)
		want(t, "CountValues of too many limits succeeds", ok, false)
		want(t, "counts of CountValues that fails", len(counts), 0)
	}
}

func TestRoundMap(t *testing.T) {
	for _, c := range places {
		m, ok := impl.RoundMap(mapAt(1, c.value))
		wantMap(t, fmt.Sprintf("RoundMap of %08x", c.value), m, ok, mapOf(1, float32(c.place)))
	}
	for _, value := range []float32{24.5, 24.499998, 24.500002, 25, 25.49, 25.5, 26, 100, 1e9, 1e30} {
		wanted := float32(25)
		if value <= 24.5 {
			wanted = 24
		}
		m, ok := impl.RoundMap(mapOf(1, value))
		wantMap(t, fmt.Sprint("RoundMap of ", value), m, ok, mapOf(1, wanted))
	}
	m, ok := impl.RoundMap(mapAt(4, 0x3f000000, 0x3fc00000, 0xbe800000, bitsHole, bitsNull, bitsInf, nanBits, 0x42c80000))
	wantMap(t, "RoundMap", m, ok, mapOf(4, 0, 2, 0, -1, 0, -1, -1, 25))
}

func TestLessMaps(t *testing.T) {
	for _, c := range []struct {
		a, b, wanted uint32
	}{
		{bitsThree, bitsOne, bitsTwo}, {bitsOne, bitsThree, 0xc0000000}, {bitsOne, bitsOne, 0},
		{0, 0, 0}, {bitsNull, 0, bitsNull}, {0, bitsNull, 0}, {bitsNull, bitsNull, 0},
		{bitsInf, bitsOne, bitsInf}, {bitsOne, bitsInf, bitsLess}, {bitsInf, bitsInf, nanBits},
		{bitsWhole, bitsOne, 0x4b7fffff}, {0x4b800001, bitsOne, bitsWhole}, {2, 1, 1}, {1, 2, 0x80000001},
	} {
		m, ok := impl.LessMaps(mapAt(1, c.a), mapAt(1, c.b))
		wantMap(t, fmt.Sprintf("LessMaps of %08x and %08x", c.a, c.b), m, ok, mapAt(1, c.wanted))
	}
	for _, hole := range allHoleBits() {
		for _, value := range append(allHoleBits(), valueBits...) {
			m, ok := impl.LessMaps(mapAt(2, hole, value), mapAt(2, value, hole))
			wantMap(t, fmt.Sprintf("LessMaps of %08x and %08x", hole, value), m, ok, mapOf(2, -1, -1))
		}
	}
	m, ok := impl.LessMaps(mapOf(3, 1, -1, 3), mapOf(3, 1, 1, 3))
	wantMap(t, "LessMaps", m, ok, mapOf(3, 0, -1, 0))
	m, ok = impl.LessMaps(mapOf(2, 5, 6, 7, -0.25), mapOf(2, 1, -1, 9, 4))
	wantMap(t, "LessMaps", m, ok, mapOf(2, 4, -1, -2, -1))
}

func TestKeepMap(t *testing.T) {
	m := mapAt(4, bitsOne, bitsHole, bitsThree, bitsNull, nanBits, bitsInf, 0xbe800000, bitsLess)
	share := mapAt(4, bitsOne, bitsTwo, 0, nanBits, bitsThree, bitsInf, bitsLess, nanBits)
	for _, c := range []struct {
		least  uint32
		wanted impl.Map
	}{
		{bitsOne, mapAt(4, bitsOne, bitsHole, bitsHole, bitsHole, nanBits, bitsInf, 0xbe800000, bitsLess)},
		{0x3f800001, mapAt(4, bitsHole, bitsHole, bitsHole, bitsHole, nanBits, bitsInf, 0xbe800000, bitsLess)},
		{0, mapAt(4, bitsOne, bitsHole, bitsThree, bitsHole, nanBits, bitsInf, 0xbe800000, bitsLess)},
		{bitsNull, mapAt(4, bitsOne, bitsHole, bitsThree, bitsHole, nanBits, bitsInf, 0xbe800000, bitsLess)},
		{bitsLess, mapAt(4, bitsOne, bitsHole, bitsThree, bitsHole, nanBits, bitsInf, 0xbe800000, bitsLess)},
		{bitsInf, mapAt(4, bitsHole, bitsHole, bitsHole, bitsHole, nanBits, bitsInf, 0xbe800000, bitsLess)},
		{nanBits, mapAt(4, bitsHole, bitsHole, bitsHole, bitsHole, nanBits, bitsHole, 0xbe800000, bitsLess)},
	} {
		got, ok := impl.KeepMap(m, share, at(c.least))
		wantMap(t, fmt.Sprint("KeepMap of shares of at least ", at(c.least)), got, ok, c.wanted)
	}
	// A share is any number, also one that would be a hole.
	got, ok := impl.KeepMap(mapOf(3, 4, 5, 6), mapOf(3, -3, -2, -1), -2)
	wantMap(t, "KeepMap of shares less than 0", got, ok, mapOf(3, -1, 5, 6))
	got, ok = impl.KeepMap(mapOf(3, 1, -1, 3), mapOf(3, 0, 1, 1), 1)
	wantMap(t, "KeepMap", got, ok, mapOf(3, -1, -1, 3))
}

func TestMirrorMap(t *testing.T) {
	for _, c := range []struct {
		m, wanted impl.Map
	}{
		{mapOf(3, 1, -1, 3), mapOf(3, 3, -1, 1)},
		{mapOf(1, 1, 2, 3), mapOf(1, 1, 2, 3)},
		{mapOf(2, 1, 2, 3, 4), mapOf(2, 2, 1, 4, 3)},
		{mapAt(4, nanBits, bitsLess, 0xbe800000, bitsNull), mapAt(4, bitsNull, 0xbe800000, bitsLess, nanBits)},
		{mapOf(1, -7), mapOf(1, -7)},
	} {
		got, ok := impl.MirrorMap(c.m)
		wantMap(t, fmt.Sprint("MirrorMap of ", c.m.Values), got, ok, c.wanted)
	}
	for i, size := range sizes() {
		m := patchyMap(i%patchyKinds, size[0], size[1], i)
		mirror, ok := impl.MirrorMap(m)
		want(t, "MirrorMap succeeds", ok, true)
		again, ok := impl.MirrorMap(mirror)
		wantMap(t, "MirrorMap of MirrorMap", again, ok, m)
		holes, ok := impl.HolesOf(mirror)
		before, okBefore := impl.HolesOf(m)
		want(t, "HolesOf succeeds", ok && okBefore, true)
		want(t, "HolesOf MirrorMap", holes, before)
	}
}

// Values are counted once each, and their counts, mean and range agree.
func TestValuesAgree(t *testing.T) {
	for i, size := range sizes() {
		m := patchyMap(i%3, size[0], size[1], i)
		holes, _ := impl.HolesOf(m)
		counts, ok := impl.CountValues(m, limitsOf(10*i))
		want(t, "CountValues succeeds", ok, true)
		sum := int64(0)
		for _, n := range counts {
			sum += n
		}
		want(t, "sum of CountValues", sum, size[0]*size[1]-holes)
		least, greatest, ok := impl.RangeOfMap(m)
		want(t, "RangeOfMap succeeds", ok, sum > 0)
		mean, okMean := impl.MeanOfMap(m)
		want(t, "MeanOfMap succeeds", okMean, sum > 0)
		if !ok {
			continue
		}
		if float64(mean) < float64(least)*0.9999 || float64(mean) > float64(greatest)*1.0001 {
			t.Errorf("MeanOfMap: got %v, want a number from %v to %v", mean, least, greatest)
		}
		above := float32(math.Nextafter32(greatest, 1e9))
		limits := []float32{least, above}
		counts, ok = impl.CountValues(m, limits)
		wantList(t, "CountValues of RangeOfMap", counts, ok, 0, sum, 0)
	}
}
