package tests

import (
	"fmt"
	"slices"
	"testing"

	"loop.example/g01223/impl"
)

func TestFillRows(t *testing.T) {
	for _, c := range []struct {
		m, wanted impl.Map
	}{
		{mapOf(3, 1, -1, 3), mapOf(3, 1, 1, 3)},
		{mapOf(3, 3, -1, 1), mapOf(3, 3, 1, 1)},
		{mapOf(3, 3, -1, 3), mapOf(3, 3, 3, 3)},
		{mapOf(5, -1, -1, 4, -1, -1), mapOf(5, 4, 4, 4, 4, 4)},
		{mapOf(5, 2, -1, -1, -1, 7), mapOf(5, 2, 2, 2, 2, 7)},
		{mapOf(5, 7, -1, -1, -1, 2), mapOf(5, 7, 2, 2, 2, 2)},
		{mapOf(6, 1, 9, -1, 5, 0, -1), mapOf(6, 1, 9, 5, 5, 0, 0)}, // the nearest ones, not the least of all
		{mapOf(3, -1, -2, -0.25), mapOf(3, -1, -1, -1)},
		{mapOf(3, -1, -1, -1, 1, -1, 3), mapOf(3, -1, -1, -1, 1, 1, 3)}, // each row on its own
		{mapOf(2, 1, -1, -1, 3), mapOf(2, 1, 1, 3, 3)},
		{mapOf(1, 1, -1, 3), mapOf(1, 1, -1, 3)},
		{mapOf(1, -7), mapOf(1, -1)},
		{mapOf(1, 7), mapOf(1, 7)},
		{mapAt(5, bitsInf, nanBits, bitsTwo, bitsLess, bitsInf), mapAt(5, bitsInf, bitsTwo, bitsTwo, bitsTwo, bitsInf)},
		{mapAt(3, nanBits, bitsInf, 0xbe800000), mapAt(3, bitsInf, bitsInf, bitsInf)},
		{mapAt(2, nanBits, bitsNull), mapAt(2, bitsNull, bitsNull)},
		{mapAt(2, nanBits, bitsLess), mapOf(2, -1, -1)},
		// Of zeros of both signs, which are equal, the one before is taken.
		{mapAt(3, bitsNull, bitsHole, 0), mapAt(3, bitsNull, bitsNull, 0)},
		{mapAt(3, 0, bitsHole, bitsNull), mapAt(3, 0, 0, bitsNull)},
	} {
		got, ok := impl.FillRows(c.m)
		wantMap(t, fmt.Sprint("FillRows of ", c.m.Wide, " wide ", c.m.Values), got, ok, c.wanted)
	}
	for _, hole := range allHoleBits() {
		got, ok := impl.FillRows(mapAt(3, bitsThree, hole, bitsTwo))
		wantMap(t, fmt.Sprintf("FillRows of the hole %08x", hole), got, ok, mapOf(3, 3, 2, 2))
	}
}

// wantFilled checks a result of FillAll.
func wantFilled(t *testing.T, m, wanted impl.Map, rounds int64) {
	t.Helper()
	got, count, ok := impl.FillAll(m)
	what := fmt.Sprint("FillAll of ", m.Wide, " wide ", m.Values)
	wantMap(t, what, got, ok, wanted)
	want(t, "rounds of "+what, count, rounds)
}

func TestFillAll(t *testing.T) {
	for _, c := range []struct {
		m, wanted impl.Map
		rounds    int64
	}{
		{mapOf(3, 1, -1, 3), mapOf(3, 1, 2, 3), 1},
		{mapOf(3, 1, 2, 3), mapOf(3, 1, 2, 3), 0},
		{mapOf(3, -1, -0.25, -7), mapOf(3, -1, -1, -1), 0},
		{mapOf(5, 1, -1, -1, -1, 9), mapOf(5, 1, 1, 5, 9, 9), 2}, // from the map as it was at the beginning of a round
		{mapOf(4, 1, -1, -1, -1), mapOf(4, 1, 1, 1, 1), 3},
		{mapOf(4, -1, -1, -1, 1), mapOf(4, 1, 1, 1, 1), 3},
		{mapOf(1, 2, -1, -1, 6), mapOf(1, 2, 2, 6, 6), 1},
		{mapOf(1, -1), mapOf(1, -1), 0},
		{mapOf(1, 4), mapOf(1, 4), 0},
		{mapOf(3, -1, 1, -1, 2, -1, 4, -1, 9, -1), mapOf(3, 1.5, 1, 2.5, 2, 4, 4, 5.5, 9, 6.5), 1},
		{mapOf(3, -1, -1, -1, -1, 8, -1, -1, -1, -1), mapOf(3, 8, 8, 8, 8, 8, 8, 8, 8, 8), 2},
		// The cells at the corners do not count.
		{mapOf(3, 5, -1, 6, -1, -1, -1, 7, -1, 8), mapOf(3, 5, 5.5, 6, 6, 6.5, 7, 7, 7.5, 8), 2},
		{mapOf(2, 1, -1, -1, 4), mapOf(2, 1, 2.5, 2.5, 4), 1},
		{mapAt(3, bitsInf, nanBits, bitsOne), mapAt(3, bitsInf, bitsInf, bitsOne), 1},
		{mapAt(3, bitsInf, nanBits, bitsInf), mapAt(3, bitsInf, bitsInf, bitsInf), 1},
		{mapAt(3, bitsMost, bitsHole, bitsMost), mapAt(3, bitsMost, bitsInf, bitsMost), 1},
		{mapAt(3, 1, bitsHole, 2), mapAt(3, 1, 2, 2), 1},
		// A sum begins with its first number, so that -0 stays.
		{mapAt(2, bitsNull, bitsLess), mapAt(2, bitsNull, bitsNull), 1},
		{mapAt(3, bitsNull, bitsHole, bitsNull), mapAt(3, bitsNull, bitsNull, bitsNull), 1},
		{mapAt(3, bitsNull, bitsHole, 0), mapAt(3, bitsNull, 0, 0), 1},
	} {
		wantFilled(t, c.m, c.wanted, c.rounds)
	}
	for _, hole := range allHoleBits() {
		wantFilled(t, mapAt(3, bitsThree, hole, bitsFive), mapOf(3, 3, 4, 5), 1)
		wantFilled(t, mapAt(2, hole, hole, hole, hole), mapOf(2, -1, -1, -1, -1), 0)
	}
}

// The order is above, below, before, behind: behind 16777216, 1 is lost, but
// two of them together are not.
func TestOrderOfFillAll(t *testing.T) {
	for _, c := range []struct {
		above, below, before, behind float32
		wanted                       uint32
	}{
		{1 << 24, 1, 1, 1, 0x4a800000},
		{1, 1 << 24, 1, 1, 0x4a800000},
		{1, 1, 1, 1 << 24, 0x4a800002}, // 3 and 16777216 are rounded to 16777220
		{1, 0, 1 << 24, 1, 0x4a800000},
		{0, 1, 1 << 24, 1, 0x4a800000},
		{1, 0, 1, 1 << 24, 0x4a800001},
		{0, 1, 1, 1 << 24, 0x4a800001},
		{1 << 24, 0, 1, 1, 0x4a800000},
	} {
		m := mapOf(3, 9, c.above, 9, c.before, -1, c.behind, 9, c.below, 9)
		got, rounds, ok := impl.FillAll(m)
		want(t, "FillAll succeeds", ok, true)
		want(t, "rounds of FillAll", rounds, 1)
		wantBits(t, fmt.Sprint("FillAll of ", m.Values), got.Values[4], c.wanted)
	}
	third, _, ok := impl.FillAll(mapOf(3, 1, 5, -1, 9, 9, 4))
	want(t, "FillAll succeeds", ok, true)
	wantBits(t, "FillAll of two at a corner", third.Values[2], bitsOf(4.5))
	third, _, ok = impl.FillAll(mapOf(3, 3, -1, 3, 9, 4, 9))
	want(t, "FillAll succeeds", ok, true)
	wantBits(t, "FillAll of three at an edge", third.Values[1], 0x40555555)
}

// One value spreads over all cells, one step in each round.
func TestRoundsOfFillAll(t *testing.T) {
	for _, size := range sizes() {
		for _, at := range []int64{0, size[0]*size[1] - 1, (size[0] + size[0]*size[1]) / 2 % (size[0] * size[1])} {
			m, _ := impl.FlatMap(size[0], size[1], -1)
			m.Values[at] = 2.5
			wanted, _ := impl.FlatMap(size[0], size[1], 2.5)
			x, y := at%size[0], at/size[0]
			far := max(x, size[0]-1-x) + max(y, size[1]-1-y)
			wantFilled(t, m, wanted, far)
		}
	}
}

// Holes are filled with values between the others, and nothing else changes.
func TestFilledValuesLieBetweenTheOthers(t *testing.T) {
	for i, size := range sizes() {
		for _, kind := range []int{patchyFew, patchySparse, patchyEven, patchyValues} {
			m := patchyMap(kind, size[0], size[1], i)
			least, greatest, some := impl.RangeOfMap(m)
			rows, ok := impl.FillRows(m)
			want(t, "FillRows succeeds", ok, true)
			all, _, ok := impl.FillAll(m)
			want(t, "FillAll succeeds", ok, true)
			for k, value := range m.Values {
				if !isHole(value) {
					wantBits(t, "value of FillRows", rows.Values[k], bitsOf(value))
					wantBits(t, "value of FillAll", all.Values[k], bitsOf(value))
					continue
				}
				row := m.Values[k/int(size[0])*int(size[0]):][:size[0]]
				if slices.ContainsFunc(row, func(x float32) bool { return !isHole(x) }) {
					want(t, "FillRows fills with a value of the row", slices.Contains(row, rows.Values[k]), true)
				} else {
					wantBits(t, "FillRows of a row of holes", rows.Values[k], bitsHole)
				}
				if !some {
					wantBits(t, "FillAll of holes", all.Values[k], bitsHole)
				} else if !(all.Values[k] >= least && all.Values[k] <= greatest) {
					t.Errorf("FillAll: got %v, want a value from %v to %v", all.Values[k], least, greatest)
				}
			}
			again, ok := impl.FillRows(rows)
			wantMap(t, "FillRows again", again, ok, rows)
			wantFilled(t, all, all, 0)
			holes, _ := impl.HolesOf(all)
			want(t, "FillAll leaves holes", holes > 0, !some)
		}
	}
}

func TestMedianAt(t *testing.T) {
	m := mapOf(3, 9, -1, 1, 4, 7, -0.25, 3, 8, 2)
	for _, c := range []struct {
		x, y, reach int64
		wanted      float32
	}{
		{1, 1, 0, 7}, {1, 0, 0, -1}, {2, 1, 0, -1}, {2, 2, 0, 2},
		{1, 1, 1, 4},                             // 1 2 3 4 7 8 9
		{0, 0, 1, 7},                             // 4 7 9
		{2, 0, 1, 7},                             // 1 7
		{1, 0, 1, 7},                             // 1 4 7 9: the greater one of both in the middle
		{2, 1, 1, 7},                             // 1 2 7 8
		{0, 2, 1, 7},                             // 3 4 7 8
		{2, 2, 1, 7},                             // 2 7 8
		{0, 1, 1, 7},                             // 3 4 7 8 9
		{1, 2, 1, 4},                             // 2 3 4 7 8
		{0, 0, 2, 4}, {2, 2, 2, 4}, {1, 1, 3, 4}, // all of them
	} {
		got, ok := impl.MedianAt(m, c.x, c.y, c.reach)
		wantNumber(t, fmt.Sprintf("MedianAt %d, %d with the reach %d", c.x, c.y, c.reach), got, ok, bitsOf(c.wanted))
	}
	for _, bad := range noPlaces {
		got, ok := impl.MedianAt(countedMap(3, 2), bad[0], bad[1], 1)
		wantNoNumber(t, fmt.Sprint("MedianAt ", bad), got, ok)
	}
	for _, reach := range noReaches {
		got, ok := impl.MedianAt(m, 1, 1, reach)
		wantNoNumber(t, fmt.Sprint("MedianAt with the reach ", reach), got, ok)
		plan, ok := impl.MedianMap(m, reach)
		wantNoMap(t, fmt.Sprint("MedianMap with the reach ", reach), plan, ok)
	}
}

func TestMediansOfSpecialValues(t *testing.T) {
	for _, c := range []struct {
		values []uint32
		wanted uint32
	}{
		{[]uint32{bitsHole}, bitsHole},
		{[]uint32{nanBits, bitsLess, 0xbe800000}, bitsHole},
		{[]uint32{nanBits, bitsTwo, bitsLess}, bitsTwo},
		{[]uint32{bitsInf, bitsOne}, bitsInf},
		{[]uint32{bitsInf, bitsOne, bitsMost}, bitsMost},
		{[]uint32{bitsInf, bitsInf, 1}, bitsInf},
		{[]uint32{2, 1, 3}, 2},
		{[]uint32{bitsTwo, bitsOne}, bitsTwo},
		{[]uint32{bitsFour, bitsOne, bitsThree, bitsTwo}, bitsThree},
		{[]uint32{bitsOne, bitsOne, bitsTwo, bitsTwo}, bitsTwo},
		{[]uint32{bitsTwo, bitsOne, bitsOne, bitsOne}, bitsOne},
		// Zeros of both signs are equal, and stay in the order of their cells.
		{[]uint32{bitsNull}, bitsNull},
		{[]uint32{0, bitsNull}, bitsNull},
		{[]uint32{bitsNull, 0}, 0},
		{[]uint32{bitsNull, 0, bitsNull}, 0},
		{[]uint32{0, bitsNull, 0}, bitsNull},
		{[]uint32{bitsOne, bitsNull, 0, bitsNull}, bitsNull},
	} {
		wide := int64(len(c.values))
		for _, m := range []impl.Map{mapAt(wide, c.values...), mapAt(1, c.values...)} {
			got, ok := impl.MedianAt(m, (m.Wide-1)/2, (m.High-1)/2, 3)
			wantNumber(t, fmt.Sprintf("MedianAt of %08x", c.values), got, ok, c.wanted)
		}
	}
}

// middleOf tells a median in another way: as many values are less than it, or
// equal and before it, as half of all.
func middleOf(values []float32) float32 {
	for i, x := range values {
		before := 0
		for k, other := range values {
			if other < x || other == x && k < i {
				before++
			}
		}
		if before == len(values)/2 {
			return x
		}
	}
	return -1
}

func TestMedianMap(t *testing.T) {
	m, ok := impl.MedianMap(mapOf(3, 1, -1, 3), 1)
	wantMap(t, "MedianMap", m, ok, mapOf(3, 1, 3, 3))
	m, ok = impl.MedianMap(mapAt(4, bitsOne, 0xbe800000, nanBits, bitsNull), 0)
	wantMap(t, "MedianMap with the reach 0", m, ok, mapAt(4, bitsOne, bitsHole, bitsHole, bitsNull))
	for i, size := range sizes() {
		reach := int64(i % 4)
		m := patchyMap(i%patchyKinds, size[0], size[1], i)
		got, ok := impl.MedianMap(m, reach)
		want(t, "MedianMap succeeds", ok, true)
		for k := range got.Values {
			var values []float32
			for j, value := range m.Values {
				dx, dy := int64(j)%size[0]-int64(k)%size[0], int64(j)/size[0]-int64(k)/size[0]
				if max(dx, -dx) <= reach && max(dy, -dy) <= reach && !isHole(value) {
					values = append(values, value)
				}
			}
			wantBits(t, "MedianMap", got.Values[k], bitsOf(middleOf(values)))
			median, ok := impl.MedianAt(m, int64(k)%size[0], int64(k)/size[0], reach)
			wantNumber(t, "MedianAt", median, ok, bitsOf(got.Values[k]))
		}
	}
}

func TestGuidedMap(t *testing.T) {
	m := mapOf(4, 1, -1, 3, 2)
	for _, c := range []struct {
		what   string
		m      impl.Map
		guide  impl.Picture
		reach  int64
		near   float32
		wanted impl.Map
	}{
		{"the given one", m, pictureOf(4, 1, 1, 1, 1), 1, 0, mapOf(4, 1, -1, 2.5, 2.5)},
		{"reach 0", m, pictureOf(4, 1, 1, 1, 1), 0, 0, mapOf(4, 1, -1, 3, 2)},
		{"reach 2", m, pictureOf(4, 1, 1, 1, 1), 2, 0, mapOf(4, 2, -1, 2, 2.5)},
		{"reach 3", m, pictureOf(4, 1, 1, 1, 1), 3, 0, mapOf(4, 2, -1, 2, 2)},
		{"unlike greys", m, pictureOf(4, 1, 1, 1, 2), 3, 0.5, mapOf(4, 2, -1, 2, 2)},
		{"greys that are nearly alike", m, pictureOf(4, 1, 5, 1, 2), 3, 1, mapOf(4, 2, -1, 2, 2)},
		{"greys unlike those beside them", m, pictureOf(4, 1, 2, 3, 4), 3, 0.5, mapOf(4, 1, -1, 3, 2)},
		{"greys barely near", m, pictureOf(4, 1, 2, 3, 4), 3, 1, mapOf(4, 1, -1, 2.5, 2.5)},
		{"near less than 0", m, pictureOf(4, 1, 1, 1, 1), 3, -1, m},
		{"near -0", m, pictureOf(4, 1, 1, 1, 1), 3, at(bitsNull), mapOf(4, 2, -1, 2, 2)},
		{"near not-a-number", m, pictureOf(4, 1, 1, 1, 1), 3, at(nanBits), m},
		{"near infinity", m, pictureOf(4, 1, -9, 1e9, 7), 3, at(bitsInf), mapOf(4, 2, -1, 2, 2)},
		{"greys not-a-numbers", m, pictureAt(4, nanBits, 0, nanBits, nanBits), 3, at(bitsInf), m},
		{"one grey not-a-number", m, pictureAt(4, nanBits, 0, 0, 0), 3, 9, mapOf(4, 1, -1, 2.5, 2.5)},
		{"infinite greys", m, pictureAt(4, bitsInf, bitsInf, bitsInf, bitsInf), 3, at(bitsInf), m},
		{"infinite greys of both signs", mapOf(2, 1, 3), pictureAt(2, bitsInf, bitsLess), 1, at(bitsInf), mapOf(2, 3, 1)},
		{"one cell", mapOf(1, 5), pictureOf(1, 0), 3, 0, mapOf(1, 5)},
		{"one hole", mapOf(1, -5), pictureOf(1, 0), 3, 0, mapOf(1, -1)},
		{"a column", mapOf(1, 1, 4, 7), pictureOf(1, 0, 0, 0), 1, 0, mapOf(1, 2.5, 4, 5.5)},
		{"a square", mapOf(2, 1, 2, 3, 6), pictureOf(2, 0, 0, 0, 0), 1, 0, mapOf(2, 3, 3, 3, 3)},
		{"a square of two greys", mapOf(2, 1, 2, 3, 6), pictureOf(2, 0, 5, 0, 5), 1, 0, mapOf(2, 2, 4, 2, 4)},
		// Sums begin with +0, but a value that is left alone stays as it is.
		{"-0", mapAt(1, bitsNull), pictureOf(1, 0), 1, 0, mapAt(1, 0)},
		{"-0 that is left alone", mapAt(1, bitsNull), pictureOf(1, 0), 1, -1, mapAt(1, bitsNull)},
		{"an infinity", mapAt(2, bitsInf, bitsOne), pictureOf(2, 0, 0), 1, 0, mapAt(2, bitsInf, bitsInf)},
		{"too great sums", mapAt(2, bitsMost, bitsMost), pictureOf(2, 0, 0), 1, 0, mapAt(2, bitsInf, bitsInf)},
		{"sums in order", mapAt(3, bitsWhole, bitsOne, bitsOne), pictureOf(3, 0, 0, 0), 3, 0, mapAt(3, 0x4aaaaaab, 0x4aaaaaab, 0x4aaaaaab)},
		{"sums in another order", mapAt(1, bitsOne, bitsOne, bitsWhole), pictureOf(1, 0, 0, 0), 3, 0, mapAt(1, 0x4aaaaaac, 0x4aaaaaac, 0x4aaaaaac)},
	} {
		got, ok := impl.GuidedMap(c.m, c.guide, c.reach, c.near)
		wantMap(t, "GuidedMap of "+c.what, got, ok, c.wanted)
	}
	for _, reach := range noReaches {
		got, ok := impl.GuidedMap(m, pictureOf(4, 1, 1, 1, 1), reach, 0)
		wantNoMap(t, fmt.Sprint("GuidedMap with the reach ", reach), got, ok)
	}
}

// Values are added row by row: behind 16777216, 1 is lost.
func TestOrderOfGuidedMap(t *testing.T) {
	flat := pictureOf(2, 0, 0, 0, 0)
	for _, c := range []struct {
		m      impl.Map
		wanted uint32
	}{
		{mapOf(2, 1<<24, 1, 1, 0), 0x4a800000},
		{mapOf(2, 1, 1, 1<<24, 0), 0x4a800001},
		{mapOf(2, 1, 1<<24, 1, 0), 0x4a800000},
		{mapOf(2, 1, 0, 1, 1<<24), 0x4a800001},
	} {
		got, ok := impl.GuidedMap(c.m, flat, 1, 0)
		wantMap(t, fmt.Sprint("GuidedMap of ", c.m.Values), got, ok, mapAt(2, c.wanted, c.wanted, c.wanted, c.wanted))
	}
}

// Means stay between values, and holes are not filled.
func TestGuidedMeansStayBetweenValues(t *testing.T) {
	for i, size := range sizes() {
		m := patchyMap(i%3, size[0], size[1], i)
		least, greatest, _ := impl.RangeOfMap(m)
		got, ok := impl.GuidedMap(m, made(madeFew, size[0], size[1], i), int64(i%4), float32(i%3))
		want(t, "GuidedMap succeeds", ok, true)
		for k, value := range got.Values {
			if isHole(m.Values[k]) {
				wantBits(t, "GuidedMap of a hole", value, bitsHole)
			} else if !(value >= least*0.9999 && value <= greatest*1.0001) {
				t.Errorf("GuidedMap: got %v, want a value from %v to %v", value, least, greatest)
			}
		}
	}
}
