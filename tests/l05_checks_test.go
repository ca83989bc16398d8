package tests

import (
	"fmt"
	"testing"

	"loop.example/g01223/impl"
)

func TestCheckMaps(t *testing.T) {
	for _, c := range []struct {
		what                string
		left, right, wanted impl.Map
		most                float32
	}{
		{"the given one", mapOf(3, 0, 1, 1), mapOf(3, 0, 1, 2), mapOf(3, 0, -1, 1), 0},
		{"difference 1", mapOf(3, 0, 1, 1), mapOf(3, 0, 1, 2), mapOf(3, 0, 1, 1), 1},
		{"flat maps", mapOf(4, 2, 2, 2, 2), mapOf(4, 2, 2, 2, 2), mapOf(4, -1, -1, 2, 2), 0},
		{"rows on their own", mapOf(2, 0, 1, 0, 1), mapOf(2, 1, 9, 0, 9), mapOf(2, -1, 1, 0, -1), 0},
		{"holes on the left", mapOf(4, -1, -0.25, 0, 1), mapOf(4, 0, 0, 1, 0), mapOf(4, -1, -1, -1, 1), 0},
		{"holes on the right", mapOf(4, 0, 0, 0, 1), mapOf(4, 0, -1, -0.25, 0), mapOf(4, 0, -1, -1, -1), 0.5},
		{"places beyond the row", mapOf(3, 1, 2, 3), mapOf(3, 1, 2, 3), mapOf(3, -1, -1, -1), 9},
		{"places at its beginning", mapOf(3, 0, 1, 2), mapOf(3, 1, 9, 9), mapOf(3, 0, 1, 2), 1},
		{"halves", mapOf(4, 0.5, 0.5, 1.5, 2.5), mapOf(4, 1, 1.5, 9, 9), mapOf(4, 0.5, -1, 1.5, -1), 0.5},
		{"halves that differ by 1", mapOf(4, 0.5, 0.5, 1.5, 2.5), mapOf(4, 1, 1.5, 9, 9), mapOf(4, 0.5, 0.5, 1.5, 2.5), 1},
		{"one cell", mapOf(1, 0), mapOf(1, 3), mapOf(1, 0), 3},
		{"one cell that is too far", mapOf(1, 0), mapOf(1, 3), mapOf(1, -1), 2.9999998},
		{"one column", mapOf(1, 0, 1, 0), mapOf(1, 0, 1, 5), mapOf(1, 0, -1, -1), 1},
		{"most less than 0", mapOf(2, 0, 0), mapOf(2, 0, 0), mapOf(2, -1, -1), -1},
		{"most -0", mapOf(2, 0, 0), mapOf(2, 0, 1), mapOf(2, 0, -1), at(bitsNull)},
		{"most not-a-number", mapOf(2, 0, 0), mapOf(2, 0, 0), mapOf(2, -1, -1), at(nanBits)},
		{"holes alone", mapOf(2, -1, -2), mapOf(2, -1, -2), mapOf(2, -1, -1), 9},
		{"values beyond MaxSide", mapOf(3, 25, 1e9, 1e30), mapOf(3, 25, 1e9, 1e30), mapOf(3, -1, -1, -1), 9},
	} {
		got, ok := impl.CheckMaps(c.left, c.right, c.most)
		wantMap(t, "CheckMaps of "+c.what, got, ok, c.wanted)
	}
}

func TestCheckMapsOfSpecialValues(t *testing.T) {
	for _, hole := range allHoleBits() {
		got, ok := impl.CheckMaps(mapAt(2, hole, 0), mapAt(2, 0, hole), at(bitsInf))
		wantMap(t, fmt.Sprintf("CheckMaps of the hole %08x", hole), got, ok, mapOf(2, -1, -1))
	}
	for _, c := range []struct {
		left, right []uint32
		most        uint32
		wanted      []uint32
	}{
		{[]uint32{bitsNull}, []uint32{0}, 0, []uint32{bitsNull}},
		{[]uint32{0}, []uint32{bitsNull}, 0, []uint32{0}},
		{[]uint32{1}, []uint32{2}, 1, []uint32{1}},
		{[]uint32{1}, []uint32{2}, 0, []uint32{bitsHole}},
		{[]uint32{0}, []uint32{bitsInf}, bitsMost, []uint32{bitsHole}},
		{[]uint32{0}, []uint32{bitsInf}, bitsInf, []uint32{0}},
		// The difference is rounded.
		{[]uint32{0x33000000}, []uint32{bitsOne}, bitsOne, []uint32{0x33000000}},
		// The place of an infinity is -1: it is told by the cell with the next x.
		{[]uint32{bitsInf, bitsInf}, []uint32{0, 0}, bitsMost, []uint32{bitsHole, bitsHole}},
		{[]uint32{bitsInf, bitsInf}, []uint32{bitsHole, 0}, bitsInf, []uint32{bitsInf, bitsHole}},
		{[]uint32{bitsInf, bitsInf}, []uint32{0, bitsHole}, bitsInf, []uint32{bitsHole, bitsHole}},
		{[]uint32{bitsInf, bitsInf}, []uint32{bitsInf, bitsInf}, bitsInf, []uint32{bitsHole, bitsHole}},
	} {
		wide := int64(len(c.left))
		got, ok := impl.CheckMaps(mapAt(wide, c.left...), mapAt(wide, c.right...), at(c.most))
		wantMap(t, fmt.Sprintf("CheckMaps of %08x and %08x", c.left, c.right), got, ok, mapAt(wide, c.wanted...))
	}
	// An infinity at the end of a row is not told by the next row.
	got, ok := impl.CheckMaps(mapAt(1, bitsInf, 0), mapAt(1, 0, 0), at(bitsInf))
	wantMap(t, "CheckMaps of an infinity at the end of a row", got, ok, mapOf(1, -1, 0))
}

func TestPlacesInCheckMaps(t *testing.T) {
	for _, c := range places {
		if isHole(at(c.value)) || c.place < 0 {
			continue
		}
		left, _ := impl.FlatMap(24, 2, at(c.value))
		right, _ := impl.FlatMap(24, 2, 0)
		wanted, _ := impl.FlatMap(24, 2, -1)
		for i := range wanted.Values {
			if int64(i%24) >= c.place {
				wanted.Values[i] = at(c.value)
			}
		}
		got, ok := impl.CheckMaps(left, right, at(bitsInf))
		wantMap(t, fmt.Sprintf("CheckMaps of the value %08x", c.value), got, ok, wanted)
	}
}

// What is checked is told by both maps: each value that stays is near one of
// the right map in the cell at its place, and nothing else changes.
func TestCheckedValuesAreToldByBoth(t *testing.T) {
	for i, size := range sizes() {
		left, right := patchyMap(patchyFew, size[0], size[1], i), patchyMap(patchyFew, size[0], size[1], i+1)
		most := float32(i%4) / 2
		got, ok := impl.CheckMaps(left, right, most)
		want(t, "CheckMaps succeeds", ok, true)
		wanted := left.Values
		for k, value := range got.Values {
			x := int64(k) % size[0]
			told := false
			for u := int64(0); u <= x; u++ {
				other := right.Values[int64(k)-x+u]
				far := max(other-wanted[k], wanted[k]-other)
				told = told || float32(x-u) == wanted[k] && !isHole(other) && far <= most
			}
			if told {
				wantBits(t, "CheckMaps of a value that is told", value, bitsOf(wanted[k]))
			} else {
				wantBits(t, "CheckMaps of a value that is not told", value, bitsHole)
			}
		}
		again, ok := impl.CheckMaps(got, right, most)
		wantMap(t, "CheckMaps again", again, ok, got)
	}
}

func TestChecksOf(t *testing.T) {
	// The winners are 0 1 1 from both sides.
	v := volumeOf(3, 2, 0, 1, 1, 0, 1, 0)
	for _, c := range []struct {
		v      impl.Volume
		most   float32
		wanted impl.Map
	}{
		{v, 0, mapOf(3, 0, -1, 1)},
		{v, 1, mapOf(3, 0, 1, 1)},
		{volumeOf(1, 3, 4, 1, 2), 0, mapOf(1, -1)},
		{volumeOf(1, 3, 1, 1, 2), 0, mapOf(1, 0)},
		{volumeAt(1, 2, nanBits, nanBits), 9, mapOf(1, -1)},
		{volumeAt(2, 2, nanBits, nanBits, bitsOne, 0), 9, mapOf(2, -1, 1)},
		{volumeOf(1, 1, 7), at(bitsInf), mapOf(1, 0)},
		{volumeOf(1, 1, 7), at(nanBits), mapOf(1, -1)},
		{volumeOf(1, 1, 7), -1, mapOf(1, -1)},
	} {
		got, ok := impl.ChecksOf(c.v, c.most)
		wantMap(t, fmt.Sprint("ChecksOf ", c.v.Costs, " with ", c.most), got, ok, c.wanted)
	}
	for i, size := range sizes() {
		v := madeVolume(i%madeKinds, size[0], size[1], int64(1+i%8), i)
		left, ok := impl.WinnersOf(v)
		want(t, "WinnersOf succeeds", ok, true)
		right, ok := impl.WinnersOf(changed(t, v, impl.OtherVolume))
		want(t, "WinnersOf succeeds", ok, true)
		wanted, ok := impl.CheckMaps(left, right, float32(i%3))
		want(t, "CheckMaps succeeds", ok, true)
		got, ok := impl.ChecksOf(v, float32(i%3))
		wantMap(t, "ChecksOf", got, ok, wanted)
	}
}

// Where the right picture is the left one shifted, and all greys are unlike,
// the shift stays.
func TestChecksOfAShiftedPicture(t *testing.T) {
	for _, size := range [][2]int64{{24, 10}, {16, 16}, {9, 2}, {8, 1}} {
		left := counted(size[0], size[1])
		for by := range int64(8) {
			right, ok := impl.ShiftPicture(left, by)
			want(t, "ShiftPicture succeeds", ok, true)
			v, ok := impl.SquareVolume(left, right, 8)
			want(t, "SquareVolume succeeds", ok, true)
			got, ok := impl.ChecksOf(v, 0)
			want(t, "ChecksOf succeeds", ok, true)
			for i, value := range got.Values {
				// The last cells of the right picture stand for the last one of the left.
				if x := int64(i) % size[0]; x >= by && x < size[0]-1 {
					want(t, fmt.Sprint("ChecksOf a shift by ", by), value, float32(by))
				}
			}
		}
	}
}

func TestUnseenOf(t *testing.T) {
	for _, c := range []struct {
		m      impl.Map
		wanted []int64
	}{
		{mapOf(3, 0, 1, 1), []int64{2}},
		{mapOf(3, 0, 0, 0), nil},
		{mapOf(3, 0, 1, 2), []int64{1, 2}},
		{mapOf(3, 1, 1, 1), []int64{2}},
		{mapOf(3, 3, 3, 3), []int64{0, 1, 2}},
		{mapOf(3, -1, -1, -1), []int64{0, 1, 2}},
		{mapOf(3, -0.25, 0, -0.5), []int64{0, 2}},
		{mapOf(3, 25, 1e30, 0), []int64{0, 1}},
		{mapOf(2, 0, 1, 1, 0), []int64{1, 2}},
		{mapOf(2, 0, 0, 1, 1), []int64{3}}, // the first cell of a row leads to no cell of the row before
		{mapOf(1, 0, 0, 0), nil},
		{mapOf(1, 0, 1, -1), []int64{1, 2}},
		{mapOf(1, 0), nil},
		{mapOf(1, 1), []int64{0}},
		{mapOf(4, 0.5, 1.5, 0.5, 2.5), []int64{3}},
		{mapAt(3, nanBits, bitsNull, bitsLess), []int64{0, 2}},
		// The place of an infinity is -1: it leads to the cell with the next x.
		{mapAt(3, bitsInf, bitsHole, bitsHole), []int64{0, 2}},
		{mapAt(3, bitsHole, bitsHole, bitsInf), []int64{0, 1, 2}},
		{mapAt(2, bitsHole, bitsInf, bitsHole, bitsHole), []int64{0, 1, 2, 3}},
	} {
		got, ok := impl.UnseenOf(c.m)
		wantList(t, fmt.Sprint("UnseenOf ", c.m.Wide, " wide ", c.m.Values), got, ok, c.wanted...)
	}
	for _, size := range sizes() {
		for by := range int64(26) {
			flat, _ := impl.FlatMap(size[0], size[1], float32(by))
			got, ok := impl.UnseenOf(flat)
			var wanted []int64
			for i := range size[0] * size[1] {
				if i%size[0]+by >= size[0] {
					wanted = append(wanted, i)
				}
			}
			wantList(t, "UnseenOf a flat map", got, ok, wanted...)
		}
	}
}

// sharpCosts are the costs of a cell, its winner between disparities, and how
// sure it is.
var sharpCosts = []struct {
	what        string
	costs       []uint32
	sharp, sure uint32
}{
	{"the example", []uint32{bitsFour, bitsOne, bitsTwo}, 0x3fa00000, 0x3f000000},
	{"the example, mirrored", []uint32{bitsTwo, bitsOne, bitsFour}, 0x3f400000, 0x3f000000},
	{"a middle", []uint32{bitsTwo, bitsOne, bitsTwo}, bitsOne, 0x3f000000},
	{"the first one", []uint32{bitsOne, bitsTwo, bitsFour}, 0, 0x3f000000},
	{"the last one", []uint32{bitsFour, bitsTwo, bitsOne}, bitsTwo, 0x3f000000},
	{"one cost", []uint32{bitsOne}, 0, bitsOne},
	{"one cost of 0", []uint32{0}, 0, bitsOne},
	{"the first one of two", []uint32{bitsOne, bitsThree}, 0, 0x3f2aaaab},
	{"the last one of two", []uint32{bitsThree, bitsOne}, bitsOne, 0x3f2aaaab},
	{"equal costs at the end", []uint32{bitsFour, bitsOne, bitsOne}, 0x3fc00000, 0},
	{"equal costs at the beginning", []uint32{bitsOne, bitsOne, bitsFour}, 0, 0},
	{"costs of 0", []uint32{0, 0, 0}, 0, 0},
	{"a cost of 0", []uint32{bitsFour, 0, bitsTwo}, 0x3f955555, bitsOne},
	{"the middle of five", []uint32{bitsSeven, bitsFour, bitsOne, bitsTwo, bitsSix}, 0x40100000, 0x3f000000},
	{"no numbers", []uint32{nanBits, 0xff800001, nanBits}, bitsHole, bitsOne},
	{"one no number", []uint32{nanBits}, bitsHole, bitsOne},
	{"no number before", []uint32{nanBits, bitsOne, bitsTwo}, bitsOne, 0x3f000000},
	{"no number behind", []uint32{bitsTwo, bitsOne, nanBits}, bitsOne, 0x3f000000},
	{"no numbers but one", []uint32{nanBits, bitsFive, nanBits}, bitsOne, bitsOne},
	{"no numbers but the last", []uint32{nanBits, nanBits, bitsFive}, bitsTwo, bitsOne},
	{"an infinity before", []uint32{bitsInf, bitsOne, bitsTwo}, bitsOne, 0x3f000000},
	{"an infinity behind", []uint32{bitsTwo, bitsOne, bitsInf}, bitsOne, 0x3f000000},
	{"infinities around", []uint32{bitsInf, bitsOne, bitsInf}, bitsOne, bitsOne},
	{"infinities", []uint32{bitsInf, bitsInf, bitsInf}, 0, 0},
	{"no number and infinities", []uint32{nanBits, bitsInf, bitsInf}, bitsOne, 0},
	{"the negative infinity", []uint32{bitsOne, bitsLess, bitsTwo}, bitsOne, bitsOne},
	{"two negative infinities", []uint32{bitsOne, bitsLess, bitsLess}, bitsOne, 0},
	// Differences that are too great: the quotient of two and an infinity is 0.
	{"too great differences", []uint32{bitsMost, 0xff7fffff, bitsMost}, bitsOne, bitsOne},
	{"a sum that is too great", []uint32{bitsMost, 0, bitsMost}, bitsOne, bitsOne},
	// The least subnormal numbers have a quotient, too.
	{"subnormal numbers", []uint32{3, 0, 1}, 0x3fa00000, bitsOne},
	{"zeros of both signs", []uint32{bitsOne, 0, bitsNull}, 0x3fc00000, 0},
	{"zeros of both signs, exchanged", []uint32{bitsOne, bitsNull, 0}, 0x3fc00000, 0},
	// The margin is 1 and the cost -1, and then 1 and -2.
	{"a sum of 0", []uint32{bitsOne, bitsHole, 0}, bitsOf(float32(1) + float32(float32(1)/float32(3))*0.5), bitsInf},
	{"a cost less than 0", []uint32{bitsOne, 0xc0000000, bitsHole}, bitsOf(1.25), bitsHole},
	{"costs less than 0 that are equal", []uint32{bitsHole, bitsHole}, 0, bitsNull},
	// Differences are made before they are added: the sum of the first and the
	// last cost would be too great.
	{"great costs", []uint32{0x7f400000, 0x7e800000, 0x7f000000}, 0x3f955555, 0x3f000000},
	// What is lost in the differences: behind 16777216, 1 is.
	{"rounded differences", []uint32{bitsWhole, bitsHole, bitsWhole}, bitsOne, bitsOf(float32(1<<24) / float32(1<<24-1))},
}

func TestSharpAt(t *testing.T) {
	for _, c := range sharpCosts {
		deep := int64(len(c.costs))
		v := volumeAt(1, deep, c.costs...)
		d, ok := impl.SharpAt(v, 0, 0)
		wantNumber(t, "SharpAt of "+c.what, d, ok, c.sharp)
		m, ok := impl.SharpMap(v)
		wantMap(t, "SharpMap of "+c.what, m, ok, mapAt(1, c.sharp))
		m, ok = impl.TrustOf(v)
		wantMap(t, "TrustOf "+c.what, m, ok, mapAt(1, c.sure))
	}
	v := volumeOf(2, 3, 4, 1, 2, 2, 1, 4, 1, 2, 3, 3, 2, 1)
	m, ok := impl.SharpMap(v)
	wantMap(t, "SharpMap", m, ok, mapOf(2, 1.25, 0.75, 0, 2))
	for i, wanted := range m.Values {
		d, ok := impl.SharpAt(v, int64(i%2), int64(i/2))
		wantNumber(t, "SharpAt", d, ok, bitsOf(wanted))
	}
	for _, bad := range noPlaces {
		d, ok := impl.SharpAt(countedVolume(3, 2, 4), bad[0], bad[1])
		wantNoNumber(t, fmt.Sprint("SharpAt ", bad), d, ok)
	}
}

// The costs of a parabola lead to where it is least, and a winner is not moved
// by more than a half.
func TestSharpWinnersOfParabolas(t *testing.T) {
	for deep := int64(3); deep <= 8; deep++ {
		for k := int64(0); k <= 4*(deep-1); k++ {
			least := float32(k) / 4
			v := emptyVolume(1, 1, deep)
			for d := range deep {
				far := float32(d) - least
				v.Costs[d] = 3*far*far + 5
			}
			wanted := least
			if least <= 0.5 {
				wanted = 0 // the first one wins
			}
			if least > float32(deep-1)-0.5 {
				wanted = float32(deep - 1)
			}
			d, ok := impl.SharpAt(v, 0, 0)
			wantNumber(t, fmt.Sprint("SharpAt of a parabola that is least at ", least), d, ok, bitsOf(wanted))
		}
	}
	for kind := range madeKinds {
		for i, v := range volumesOfGreatest(kind) {
			winners, _ := impl.WinnersOf(v)
			sharp, ok := impl.SharpMap(v)
			want(t, "SharpMap succeeds", ok, true)
			for k, d := range winners.Values {
				far := sharp.Values[k] - d
				inside := d > 0 && d < float32(v.Deep-1)
				if !(far >= -0.5 && far <= 0.5) || far != 0 && !inside {
					t.Errorf("SharpMap of the volume %d: got %v for the winner %v of %d", i, sharp.Values[k], d, v.Deep)
				}
			}
		}
	}
}

// Winners are as sure as before when all costs are twice as great.
func TestTrustOfScaledVolumes(t *testing.T) {
	for i, size := range sizes() {
		v := madeVolume(madeEven, size[0], size[1], int64(1+i%8), i)
		sure, ok := impl.TrustOf(v)
		want(t, "TrustOf succeeds", ok, true)
		for _, x := range sure.Values {
			if !(x >= 0 && x <= 1) {
				t.Errorf("TrustOf: got %v, want a number from 0 to 1", x)
			}
		}
		again, ok := impl.TrustOf(scaled(t, v, 2))
		wantMap(t, "TrustOf costs twice as great", again, ok, sure)
		sharp, ok := impl.SharpMap(v)
		want(t, "SharpMap succeeds", ok, true)
		again, ok = impl.SharpMap(scaled(t, v, 2))
		wantMap(t, "SharpMap of costs twice as great", again, ok, sharp)
	}
}
