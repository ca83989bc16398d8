package tests

import (
	"math"
	"testing"

	"loop.example/g01223/impl"
)

func TestValidMap(t *testing.T) {
	for _, size := range sizes() {
		m := countedMap(size[0], size[1])
		want(t, "ValidMap", impl.ValidMap(m), true)
		m.Values = append(m.Values, 0)
		want(t, "ValidMap with a value too many", impl.ValidMap(m), false)
		m.Values = m.Values[:len(m.Values)-2]
		want(t, "ValidMap with a value too few", impl.ValidMap(m), false)
	}
	want(t, "ValidMap of special values", impl.ValidMap(mapAt(8, specialBits[:40]...)), true)
	for name, m := range invalidMaps() {
		want(t, "ValidMap: "+name, impl.ValidMap(m), false)
	}
}

func TestSameMap(t *testing.T) {
	for _, c := range []struct {
		what string
		a, b impl.Map
		same bool
	}{
		{"a map and itself", countedMap(3, 2), countedMap(3, 2), true},
		{"other sizes", countedMap(3, 2), countedMap(2, 3), false},
		{"other widths", impl.Map{Wide: 1}, impl.Map{}, false},
		{"other heights", impl.Map{High: 1}, impl.Map{}, false},
		{"another value", mapOf(3, 1, 2, 3), mapOf(3, 1, 2, 4), false},
		{"zeros of both signs", mapAt(2, 0, 0), mapAt(2, 0, bitsNull), false},
		{"zeros of a sign", mapAt(1, bitsNull), mapAt(1, bitsNull), true},
		{"not-a-numbers", mapAt(2, nanBits, 0xff800001), mapAt(2, 0x7fffffff, nanBits), true},
		{"a not-a-number and infinity", mapAt(1, 0x7f800001), mapAt(1, bitsInf), false},
		{"infinities of both signs", mapAt(1, bitsInf), mapAt(1, bitsLess), false},
		{"maps that are not valid", impl.Map{}, impl.Map{}, true},
		{"nil and empty", impl.Map{Wide: 5}, impl.Map{Wide: 5, Values: []float32{}}, true},
		{"a value more", impl.Map{Values: make([]float32, 1)}, impl.Map{}, false},
		{"a row more", impl.Map{Wide: 24, High: 1, Values: make([]float32, 24)}, impl.Map{Wide: 24, High: 1, Values: make([]float32, 48)}, false},
	} {
		want(t, "SameMap of "+c.what, impl.SameMap(c.a, c.b), c.same)
		want(t, "SameMap of "+c.what+", exchanged", impl.SameMap(c.b, c.a), c.same)
	}
	for name, m := range invalidMaps() {
		other := impl.Map{Wide: m.Wide, High: m.High, Values: append([]float32{}, m.Values...)}
		want(t, "SameMap: "+name, impl.SameMap(m, other), true)
		if last := len(other.Values) - 1; last >= 0 {
			other.Values[last] = 3
			want(t, "SameMap with another value: "+name, impl.SameMap(m, other), false)
		}
	}
	m, other := countedMap(16, 16), countedMap(16, 16)
	for i := range m.Values {
		other.Values[i] += 0.5
		want(t, "SameMap with another value", impl.SameMap(m, other), false)
		other.Values[i] -= 0.5
	}
}

func TestFlatMap(t *testing.T) {
	for _, bits := range []uint32{0, bitsNull, bitsHole, bitsInf, bitsLess, nanBits, 1} {
		m, ok := impl.FlatMap(2, 2, at(bits))
		wantMap(t, "FlatMap", m, ok, mapAt(2, bits, bits, bits, bits))
	}
	for _, size := range sizes() {
		m, ok := impl.FlatMap(size[0], size[1], -3)
		want(t, "FlatMap succeeds", ok, true)
		want(t, "FlatMap is valid", impl.ValidMap(m), true)
		want(t, "size of FlatMap", [2]int64{m.Wide, m.High}, size)
		for _, value := range m.Values {
			wantBits(t, "FlatMap", value, 0xc0400000)
		}
	}
	for name, p := range invalidMaps() {
		if p.Wide > 0 && p.Wide < 4 && p.High > 0 && p.High < 4 {
			continue // its size is that of a map
		}
		m, ok := impl.FlatMap(p.Wide, p.High, 1)
		wantNoMap(t, "FlatMap: "+name, m, ok)
	}
}

func TestValueAt(t *testing.T) {
	for _, size := range [][2]int64{{1, 1}, {3, 2}, {24, 10}, {1, 24}, {16, 16}} {
		m := countedMap(size[0], size[1])
		for y := range m.High {
			for x := range m.Wide {
				value, ok := impl.ValueAt(m, x, y)
				wantNumber(t, "ValueAt", value, ok, math.Float32bits(float32(1+x+size[0]*y)))
			}
		}
		for _, cell := range besideOf(asPicture(m)) {
			value, ok := impl.ValueAt(m, cell[0], cell[1])
			wantNoNumber(t, "ValueAt beside the map", value, ok)
		}
	}
	m := mapAt(4, bitsNull, nanBits, bitsInf, 1)
	for x, bits := range []uint32{bitsNull, nanBits, bitsInf, 1} {
		value, ok := impl.ValueAt(m, int64(x), 0)
		wantNumber(t, "ValueAt of special values", value, ok, bits)
	}
}

// beyondPlaces stands for all places that are greater than 24.
const beyondPlaces = 25

// places are values and the places of them.
var places = []struct {
	value uint32
	place int64
}{
	{0, 0}, {bitsNull, 0}, {bitsOne, 1}, {bitsTwo, 2}, {bitsSeven, 7}, {0x41000000, 8},
	// Halves go to even places, and what is next to them does not.
	{0xbf000000, 0}, {0xbf000001, -1}, {0xbeffffff, 0}, {bitsHole, -1}, {0xbfc00000, -1}, {0xc0000000, -1},
	{0x3f000000, 0}, {0x3f000001, 1}, {0x3effffff, 0},
	{0x3fc00000, 2}, {0x3fbfffff, 1}, {0x3fc00001, 2},
	{0x40200000, 2}, {0x40200001, 3}, {0x401fffff, 2},
	{0x40600000, 4}, {0x405fffff, 3}, {0x40b00000, 6}, {0x40d00000, 6}, {0x40d00001, 7},
	{0x40f00000, 8}, {0x40efffff, 7},
	// Places are those of pictures up to MaxSide.
	{0x41b80000, 23}, {0x41bc0000, 24}, {0x41bbffff, 23}, {0x41c00000, 24}, {0x41c40000, 24},
	{0x41c40001, beyondPlaces}, {0x41c80000, beyondPlaces}, {0x41cc0000, beyondPlaces}, {0x41d00000, beyondPlaces},
	{0x42c80000, beyondPlaces}, {0x4f000000, beyondPlaces}, {0x5f000000, beyondPlaces}, {0x5f800000, beyondPlaces},
	{0x60000000, beyondPlaces}, {0x71000000, beyondPlaces}, {bitsMost, beyondPlaces},
	{0xdf000000, -1}, {0xff7fffff, -1},
	{bitsInf, -1}, {bitsLess, -1}, {nanBits, -1}, {0xffc00000, -1}, {0x7f800001, -1}, {0xffffffff, -1},
	{1, 0}, {0x80000001, 0}, {0x007fffff, 0}, {0x807fffff, 0},
}

func TestPlacesInCostOfMap(t *testing.T) {
	for _, c := range places {
		for deep := int64(1); deep <= 8; deep++ {
			wanted := float32(0)
			if c.place >= 0 && c.place < deep {
				wanted = float32(c.place + 1)
			}
			cost, ok := impl.CostOfMap(countedVolume(1, 1, deep), mapAt(1, c.value))
			wantNumber(t, "CostOfMap", cost, ok, bitsOf(wanted))
		}
	}
}

func TestPlacesInWarpPicture(t *testing.T) {
	right := counted(24, 1)
	for _, c := range places {
		m, _ := impl.FlatMap(24, 1, at(c.value))
		warp, ok := impl.WarpPicture(right, m)
		want(t, "WarpPicture succeeds", ok, true)
		gap, ok := impl.ErrorOf(right, right, m)
		want(t, "ErrorOf succeeds", ok, c.place >= 0 && c.place <= 24)
		sum := float32(0)
		for x, grey := range warp.Greys {
			if c.place < 0 || c.place > 24 {
				wantBits(t, "WarpPicture of no place", grey, 0)
				continue
			}
			told := cellOf(right, int64(x)-c.place, 0)
			wantBits(t, "WarpPicture", grey, bitsOf(told))
			sum += right.Greys[x] - told
		}
		wantBits(t, "ErrorOf", gap, bitsOf(sum/24))
	}
}

func TestCostOfMap(t *testing.T) {
	v := volumeOf(2, 2, 1, 10, 2, 20, 3, 30, 4, 40)
	for _, c := range []struct {
		m    impl.Map
		cost float32
	}{
		{mapOf(2, 0, 0, 0, 0), 10},
		{mapOf(2, 1, 1, 1, 1), 100},
		{mapOf(2, 0, 1, 1, 0), 55},
		{mapOf(2, -1, 1, -1, 0), 24},
		{mapOf(2, 2, 1, 8, 25), 20},
		{mapOf(2, -1, -1, -1, -1), 0},
		{mapOf(2, 2, 2, 2, 2), 0},
		{mapOf(2, 0.5, 0.75, 1.25, 1.5), 51},
	} {
		cost, ok := impl.CostOfMap(v, c.m)
		wantNumber(t, "CostOfMap", cost, ok, bitsOf(c.cost))
	}
	cost, ok := impl.CostOfMap(exampleVolume(), mapOf(2, 0, 1))
	wantNumber(t, "CostOfMap of the example", cost, ok, bitsOne)
	cost, ok = impl.CostOfMap(countedVolume(16, 16, 8), asMap(turned(t, counted(16, 16), func(p impl.Picture) (impl.Picture, bool) {
		return impl.ScalePicture(p, 0, 7)
	})))
	wantNumber(t, "CostOfMap of the greatest", cost, ok, bitsOf(263168)) // 8 times the sum of 1 to 256
}

func TestCostOfMapOfSpecialCosts(t *testing.T) {
	for _, c := range []struct {
		costs []uint32 // one for each cell
		cost  uint32
	}{
		{[]uint32{bitsNull}, 0}, // sums begin with +0
		{[]uint32{bitsNull, bitsNull}, 0},
		{[]uint32{nanBits, bitsOne}, nanBits},
		{[]uint32{bitsOne, 0xff800001}, nanBits},
		{[]uint32{bitsInf, bitsOne}, bitsInf},
		{[]uint32{bitsInf, bitsLess}, nanBits},
		{[]uint32{bitsMost, bitsMost, 0xff7fffff}, bitsInf},
		{[]uint32{bitsMost, 0xff7fffff, bitsMost}, bitsMost},
		{[]uint32{1, 1, 1}, 3},
		// Sums go in order, and each one is rounded.
		{[]uint32{bitsWhole, bitsOne, bitsOne}, bitsWhole},
		{[]uint32{bitsOne, bitsOne, bitsWhole}, 0x4b800001},
		{[]uint32{bitsOne, bitsWhole, bitsWhole ^ bitsNull}, 0},
		{[]uint32{bitsWhole, bitsWhole ^ bitsNull, bitsOne}, bitsOne},
	} {
		flat, _ := impl.FlatMap(int64(len(c.costs)), 1, 0)
		cost, ok := impl.CostOfMap(volumeAt(int64(len(c.costs)), 1, c.costs...), flat)
		wantNumber(t, "CostOfMap of special costs", cost, ok, c.cost)
	}
	// Costs of other disparities do not matter.
	v := volumeAt(2, 3, nanBits, bitsOne, nanBits, bitsTwo, nanBits, bitsInf)
	cost, ok := impl.CostOfMap(v, mapOf(2, 1, 0))
	wantNumber(t, "CostOfMap beside not-a-numbers", cost, ok, bitsThree)
}

func TestCostOfMapOfOtherSizes(t *testing.T) {
	v := countedVolume(4, 3, 2)
	for _, m := range []impl.Map{countedMap(3, 3), countedMap(5, 3), countedMap(4, 2), countedMap(4, 4), countedMap(3, 4), countedMap(12, 1), {}, {Wide: 4, High: 3}} {
		cost, ok := impl.CostOfMap(v, m)
		wantNoNumber(t, "CostOfMap of another size", cost, ok)
	}
}

func TestWarpPicture(t *testing.T) {
	right := pictureOf(3, 1, 2, 3, 4, 5, 6)
	for _, c := range []struct {
		m, wanted impl.Map
	}{
		{mapOf(3, 0, 0, 0, 0, 0, 0), mapOf(3, 1, 2, 3, 4, 5, 6)},
		{mapOf(3, 1, 1, 1, 2, 2, 2), mapOf(3, 1, 1, 2, 4, 4, 4)},
		{mapOf(3, 0, 1, 2, -1, 1, 25), mapOf(3, 1, 1, 1, 0, 4, 0)},
		// Other sizes than that of the right picture.
		{mapOf(1, 0), mapOf(1, 1)},
		{mapOf(2, 0, 0), mapOf(2, 1, 2)},
		{mapOf(2, 0, 0, 1, 1, 0, 0), mapOf(2, 1, 2, 4, 4, 4, 5)},
		{mapOf(5, 0, 0, 0, 0, 0), mapOf(5, 1, 2, 3, 3, 3)},
		{mapOf(5, 3, 2, 1, 2, 2), mapOf(5, 1, 1, 2, 2, 3)},
		{mapOf(1, 0, 0, 24, 3), mapOf(1, 1, 4, 4, 4)},
	} {
		p, ok := impl.WarpPicture(right, c.m)
		wantPicture(t, "WarpPicture", p, ok, asPicture(c.wanted))
	}
	p, ok := impl.WarpPicture(pictureAt(4, bitsNull, nanBits, bitsInf, bitsLess), mapOf(4, 0, 0, 0, 1))
	wantPicture(t, "WarpPicture of special greys", p, ok, pictureAt(4, bitsNull, nanBits, bitsInf, bitsInf))
	for name, q := range invalidPictures() {
		p, ok := impl.WarpPicture(q, countedMap(2, 2))
		wantNoPicture(t, "WarpPicture: "+name, p, ok)
		p, ok = impl.WarpPicture(counted(2, 2), asMap(q))
		wantNoPicture(t, "WarpPicture with a map that is not valid: "+name, p, ok)
	}
	for _, size := range sizes() {
		flat, _ := impl.FlatMap(size[0], size[1], 0)
		for _, right := range []impl.Picture{counted(5, 3), counted(16, 16), counted(1, 24)} {
			wanted := impl.Picture{Wide: size[0], High: size[1]}
			for k := range flat.Values {
				wanted.Greys = append(wanted.Greys, cellOf(right, int64(k)%size[0], int64(k)/size[0]))
			}
			p, ok := impl.WarpPicture(right, flat)
			wantPicture(t, "WarpPicture of places 0", p, ok, wanted)
		}
	}
}

func TestErrorOf(t *testing.T) {
	left := pictureOf(3, 1, 5, 2, 0, 7, 3)
	right := pictureOf(3, 2, 4, 8, 0.5, 7, 1)
	for _, c := range []struct {
		m   impl.Map
		gap float32
	}{
		{mapOf(3, 0, 0, 0, 0, 0, 0), 10.5 / 6},
		{mapOf(3, 0, 1, 2, 24, 2, 1), 15.0 / 6},
		{mapOf(3, -1, 0, -1, 0, -1, -1), 0.75},
		{mapOf(3, 25, 0, 0, 25, 26, 1000), 3.5},
		{mapOf(3, 24, -1, -1, -1, -1, -1), 1},
		{mapOf(3, -1, -1, -1, -1, 0, -1), 0},
		{mapOf(3, 0, 0, 0, -1, -1, -1), 8.0 / 3},
		{mapOf(3, -0.5, -0.75, 0.5, -1, -1, -1), 3.5},
	} {
		gap, ok := impl.ErrorOf(left, right, c.m)
		wantNumber(t, "ErrorOf", gap, ok, bitsOf(c.gap))
	}
	gap, ok := impl.ErrorOf(exampleLeft(), exampleRight(), mapOf(2, 0, 1))
	wantNumber(t, "ErrorOf the example", gap, ok, 0x3f000000)
	for _, value := range []uint32{bitsHole, 0x41c80000, bitsInf, bitsLess, nanBits, bitsMost} {
		gap, ok := impl.ErrorOf(left, right, mapAt(3, value, value, value, value, value, value))
		wantNoNumber(t, "ErrorOf a map without places", gap, ok)
	}
}

func TestErrorOfSpecialGreys(t *testing.T) {
	for _, c := range []struct {
		left, right []uint32
		gap         uint32
	}{
		{[]uint32{0}, []uint32{bitsNull}, 0},
		{[]uint32{bitsNull}, []uint32{0}, 0},
		{[]uint32{nanBits, 0}, []uint32{0, 0}, nanBits},
		{[]uint32{0, 0}, []uint32{0, 0xff800001}, nanBits},
		{[]uint32{bitsInf, 0}, []uint32{0, 0}, bitsInf},
		{[]uint32{bitsLess, 0}, []uint32{0, 0}, bitsInf},
		{[]uint32{bitsInf}, []uint32{bitsInf}, nanBits},
		{[]uint32{bitsMost, bitsMost}, []uint32{0, 0}, bitsInf},
		{[]uint32{bitsMost}, []uint32{0}, bitsMost},
		{[]uint32{2, 0, 0}, []uint32{0, 0, 0}, 1},
		{[]uint32{1, 0}, []uint32{0, 0}, 0},
		// Differences are rounded, and sums go in order.
		{[]uint32{bitsWhole}, []uint32{bitsHole}, bitsWhole},
		{[]uint32{bitsWhole, bitsOne, bitsOne, 0}, []uint32{0, 0, 0, 0}, 0x4a800000},
		{[]uint32{bitsOne, bitsOne, bitsWhole, 0}, []uint32{0, 0, 0, 0}, 0x4a800001},
	} {
		wide := int64(len(c.left))
		flat, _ := impl.FlatMap(wide, 1, 0)
		gap, ok := impl.ErrorOf(pictureAt(wide, c.left...), pictureAt(wide, c.right...), flat)
		wantNumber(t, "ErrorOf special greys", gap, ok, c.gap)
	}
	// Greys of cells that are left out do not matter.
	gap, ok := impl.ErrorOf(pictureAt(3, nanBits, bitsFive, bitsInf), pictureAt(3, bitsOne, nanBits, nanBits), mapOf(3, -1, 1, 25))
	wantNumber(t, "ErrorOf beside not-a-numbers", gap, ok, bitsFour)
}

func TestErrorOfOtherSizes(t *testing.T) {
	p := counted(4, 3)
	m := asMap(pictureOf(4, make([]float32, 12)...))
	gap, ok := impl.ErrorOf(p, p, m)
	wantNumber(t, "ErrorOf a picture and itself", gap, ok, 0)
	others := invalidPictures()
	for i, q := range []impl.Picture{counted(3, 3), counted(5, 3), counted(4, 2), counted(4, 4), counted(3, 4), counted(12, 1)} {
		others["size "+string(rune('0'+i))] = q
	}
	for name, q := range others {
		gap, ok := impl.ErrorOf(q, p, m)
		wantNoNumber(t, "ErrorOf another left picture: "+name, gap, ok)
		gap, ok = impl.ErrorOf(p, q, m)
		wantNoNumber(t, "ErrorOf another right picture: "+name, gap, ok)
		gap, ok = impl.ErrorOf(p, p, asMap(q))
		wantNoNumber(t, "ErrorOf another map: "+name, gap, ok)
		gap, ok = impl.ErrorOf(q, q, m)
		wantNoNumber(t, "ErrorOf other pictures: "+name, gap, ok)
	}
}

func TestWrongShare(t *testing.T) {
	m := mapOf(3, 1, 2, 3, 4, 5, -1)
	truth := mapOf(3, 1, 2.5, 4, 1, 9, -1)
	for _, c := range []struct {
		near  float32
		wrong float32 // cells
	}{
		{0, 4}, {at(bitsNull), 4}, {0.25, 4}, {0.5, 3}, {1, 2}, {3, 1}, {3.9999998, 1}, {4, 0}, {at(bitsInf), 0},
		{-1, 6}, {at(0x80000001), 6}, {at(bitsLess), 6}, {at(nanBits), 6}, {at(0x7f800001), 6},
	} {
		share, ok := impl.WrongShare(m, truth, c.near)
		wantNumber(t, "WrongShare", share, ok, bitsOf(c.wrong/6))
		share, ok = impl.WrongShare(truth, m, c.near)
		wantNumber(t, "WrongShare exchanged", share, ok, bitsOf(c.wrong/6))
	}
	for _, c := range []struct {
		a, b, near, share uint32
	}{
		{0, bitsNull, 0, 0},
		{nanBits, nanBits, bitsInf, bitsOne},
		{nanBits, 0, bitsInf, bitsOne},
		{bitsInf, bitsInf, bitsInf, bitsOne},
		{bitsInf, bitsLess, bitsInf, 0},
		{bitsInf, 0, bitsMost, bitsOne},
		{bitsMost, 0xff7fffff, bitsMost, bitsOne},
		{bitsWhole, bitsHole, bitsWhole, 0}, // the difference is rounded
		{1, 2, 1, 0},
		{1, 2, 0, bitsOne},
	} {
		share, ok := impl.WrongShare(mapAt(1, c.a), mapAt(1, c.b), at(c.near))
		wantNumber(t, "WrongShare of one cell", share, ok, c.share)
	}
	share, ok := impl.WrongShare(mapOf(3, 1, 2, 3), mapOf(3, 1, 2, 4), 0)
	wantNumber(t, "WrongShare of a third", share, ok, 0x3eaaaaab)
	share, ok = impl.WrongShare(mapOf(1, 1, 2, 3, 4, 5, 6, 7), mapOf(1, 1, 0, 0, 0, 0, 0, 7), 0)
	wantNumber(t, "WrongShare of five sevenths", share, ok, 0x3f36db6e)
}

func TestWrongShareOfAllSizes(t *testing.T) {
	for _, size := range sizes() {
		flat, _ := impl.FlatMap(size[0], size[1], 0)
		cells := size[0] * size[1]
		for _, wrong := range []int64{0, 1, cells / 3, cells - 1, cells} {
			m, _ := impl.FlatMap(size[0], size[1], 0)
			for i := range wrong {
				m.Values[i] = 1
			}
			share, ok := impl.WrongShare(m, flat, 0.5)
			wantNumber(t, "WrongShare", share, ok, bitsOf(float32(wrong)/float32(cells)))
		}
	}
	m := countedMap(4, 3)
	for _, other := range []impl.Map{countedMap(3, 3), countedMap(5, 3), countedMap(4, 2), countedMap(4, 4), countedMap(3, 4), countedMap(12, 1), {}} {
		share, ok := impl.WrongShare(m, other, 100)
		wantNoNumber(t, "WrongShare of other sizes", share, ok)
		share, ok = impl.WrongShare(other, m, 100)
		wantNoNumber(t, "WrongShare of other sizes", share, ok)
	}
}
