package tests

import (
	"fmt"
	"math"
	"testing"

	"loop.example/g01223/impl"
)

func TestIsWhole(t *testing.T) {
	v := countedVolume(3, 2, 4)
	for _, m := range []impl.Map{mapOf(3, 0, 1, 2, 3, 0, 1), mapOf(3, 3, 3, 3, 3, 3, 3), mapAt(3, 0, bitsNull, bitsOne, bitsNull, 0, 0)} {
		want(t, fmt.Sprint("IsWhole of ", m.Values), impl.IsWhole(v, m), true)
	}
	for _, bad := range []uint32{bitsFour, bitsHole, 0x3f000000, 0x3fc00000, 0x3f7fffff, 0x3f800001, 1, 0x80000001, 0xbe800000, 0xbf000000, 0x40400001, 0x403fffff, 0x40600000, nanBits, 0xff800001, bitsInf, bitsLess, bitsMost, 0xff7fffff, 0x41000000} {
		for i := range 6 {
			m := mapOf(3, 0, 1, 2, 3, 0, 1)
			m.Values[i] = at(bad)
			want(t, fmt.Sprint("IsWhole of ", m.Values), impl.IsWhole(v, m), false)
		}
	}
	for _, m := range []impl.Map{mapOf(2, 0, 0, 0, 0, 0, 0), mapOf(3, 0, 0, 0), mapOf(6, 0, 0, 0, 0, 0, 0), {}, {Wide: 3, High: 2}, {Wide: 3, High: 2, Values: make([]float32, 5)}, {Wide: 3, High: 2, Values: make([]float32, 7)}} {
		want(t, "IsWhole of another size", impl.IsWhole(v, m), false)
	}
	for deep := int64(1); deep <= 8; deep++ {
		for value := range int64(10) {
			m := mapOf(1, float32(value))
			want(t, fmt.Sprintf("IsWhole of %d and the depth %d", value, deep), impl.IsWhole(emptyVolume(1, 1, deep), m), value < deep)
		}
	}
	for name, bad := range invalidVolumes() {
		want(t, "IsWhole: "+name, impl.IsWhole(bad, zeroMap(bad)), false)
		want(t, "IsWhole: "+name, impl.IsWhole(bad, impl.Map{Wide: bad.Wide, High: bad.High, Values: bad.Costs}), false)
	}
	for name, bad := range invalidMaps() {
		valid := emptyVolume(min(max(bad.Wide, 1), 16), min(max(bad.High, 1), 16), 8)
		want(t, "IsWhole with a map: "+name, impl.IsWhole(valid, bad), false)
	}
}

// The functions with maps fail if a map is not whole.
func TestMapsThatAreNotWhole(t *testing.T) {
	v := countedVolume(3, 2, 4)
	for name, f := range wholeCalls() {
		for _, m := range []impl.Map{
			mapOf(3, 0, 1, 2, 3, 4, 0), mapOf(3, -1, 0, 0, 0, 0, 0), mapOf(3, 0, 0, 0, 0, 0, 0.5), mapAt(3, 0, 0, nanBits, 0, 0, 0), mapAt(3, 0, bitsInf, 0, 0, 0, 0),
			mapOf(2, 0, 0, 0, 0, 0, 0), mapOf(3, 0, 0, 0), {}, {Wide: 3, High: 2}, {Wide: 3, High: 2, Values: make([]float32, 7)},
		} {
			result, ok := f(v, m)
			want(t, name+" with a map that is not whole", textOfResult(result, ok), textOfResult(noneOf(result), false))
		}
		for what, m := range invalidMaps() {
			result, ok := f(v, m)
			want(t, name+" with a map: "+what, textOfResult(result, ok), textOfResult(noneOf(result), false))
		}
		for what, bad := range invalidVolumes() {
			result, ok := f(bad, zeroMap(bad))
			want(t, name+" with a volume: "+what, textOfResult(result, ok), textOfResult(noneOf(result), false))
		}
	}
}

// planVolume has costs that tell their places: 100 for the x, 10 for the y and
// 1 for the disparity.
func planVolume() (impl.Volume, impl.Map) {
	v := emptyVolume(3, 2, 4)
	for i := range v.Costs {
		v.Costs[i] = float32(100*(i/4%3) + 10*(i/12) + i%4)
	}
	return v, mapOf(3, 0, 1, 3, 0, 3, 2)
}

func TestMapCost(t *testing.T) {
	v, m := planVolume()
	cost, ok := impl.MapCost(v, impl.Prices{}, m)
	wantNumber(t, "MapCost for nothing", cost, ok, bitsOf(639))
	// Jumps: 0 1 3 along the first row, 0 3 2 along the other, 0 0, 1 3 and 3 2 down.
	cost, ok = impl.MapCost(v, impl.Prices{One: 1000, More: 10000}, m)
	wantNumber(t, "MapCost", cost, ok, bitsOf(33639))
	for _, c := range []struct {
		what   string
		v      impl.Volume
		m      impl.Map
		prices impl.Prices
		wanted uint32
	}{
		{"one cost", volumeOf(1, 1, 7), mapOf(1, 0), impl.Prices{}, bitsSeven},
		{"one -0", volumeAt(1, 1, bitsNull), mapOf(1, 0), impl.Prices{}, 0},
		{"a value -0", volumeOf(1, 2, 7, 5), mapAt(1, bitsNull), impl.Prices{}, bitsSeven},
		{"one row", volumeOf(3, 2, 1, 0, 0, 1, 1, 0), mapOf(3, 0, 1, 0), impl.Prices{One: 2, More: 3}, bitsSeven},
		{"a not-a-number", volumeAt(2, 1, 0, nanBits), mapOf(2, 0, 0), impl.Prices{}, nanBits},
		{"a not-a-number that is not told", volumeAt(2, 2, 0, nanBits, nanBits, bitsOne), mapOf(2, 0, 1), impl.Prices{}, bitsOne},
		{"an infinity", volumeAt(2, 1, bitsInf, 0), mapOf(2, 0, 0), impl.Prices{}, bitsInf},
		{"both infinities", volumeAt(2, 1, bitsInf, bitsLess), mapOf(2, 0, 0), impl.Prices{}, nanBits},
		// From 16777216 on, 1 is lost, but after 2 it is not.
		{"a cost and a price", volumeAt(2, 2, bitsWhole, 0, 0, bitsTwo), mapOf(2, 0, 1), pricesAt(bitsOne, bitsOne), 0x4b800001},
		{"a price and a cost", volumeAt(2, 2, bitsWhole, 0, 0, bitsOne), mapOf(2, 0, 1), pricesAt(bitsTwo, bitsTwo), 0x4b800002},
	} {
		cost, ok := impl.MapCost(c.v, c.prices, c.m)
		wantNumber(t, "MapCost of "+c.what, cost, ok, c.wanted)
	}
	// The price to the next x comes before that to the next y: behind 16777216,
	// 1 is lost, but behind 16777218, it is rounded up. Then 16777216 is taken away.
	square := volumeAt(2, 3, bitsWhole, 0, 0, 0, 0xcb800000, 0xcb800000, 0, 0, 0, 0, 0, 0)
	cost, ok = impl.MapCost(square, impl.Prices{One: 1, More: 2}, mapOf(2, 0, 1, 2, 1))
	wantNumber(t, "MapCost of 1 along x and 2 along y", cost, ok, bitsThree)
	cost, ok = impl.MapCost(square, impl.Prices{One: 1, More: 2}, mapOf(2, 0, 2, 1, 1))
	wantNumber(t, "MapCost of 2 along x and 1 along y", cost, ok, bitsFive)
}

// Of a volume of one row, a map costs what the row does, where nothing is rounded.
func TestMapCostOfARow(t *testing.T) {
	for i := range 200 {
		wide, deep := int64(1+i%24), int64(1+i%8)
		v := wholeVolume(wide, 1, deep, i)
		m := madeWhole(wide, 1, deep, i+1)
		p := wholePrices()[i%7]
		row := make([]int64, wide)
		for x := range row {
			row[x] = int64(m.Values[x])
		}
		wanted := costOfRow(v, p, row)
		cost, ok := impl.MapCost(v, p, m)
		want(t, "MapCost succeeds", ok, true)
		want(t, "MapCost of a row", cost, wanted)
		swap := changed(t, v, impl.SwapVolume)
		cost, ok = impl.MapCost(swap, p, impl.Map{Wide: 1, High: wide, Values: m.Values})
		want(t, "MapCost succeeds", ok, true)
		want(t, "MapCost of a column", cost, wanted)
	}
}

func TestLocalCost(t *testing.T) {
	v := emptyVolume(3, 3, 4)
	for i := range v.Costs {
		v.Costs[i] = float32(i%4) / 4
	}
	m := mapOf(3, 0, 1, 3, 2, 0, 3, 1, 1, 0)
	p := impl.Prices{One: 1, More: 16}
	for _, c := range []struct {
		x, y, d int64
		wanted  float32
	}{
		{1, 1, 0, 34}, {1, 1, 1, 17.25}, {1, 1, 2, 3.5}, {1, 1, 3, 33.75},
		{0, 0, 0, 17}, {0, 0, 1, 1.25}, {0, 0, 2, 1.5}, {0, 0, 3, 17.75},
		{2, 0, 3, 16.75}, {2, 0, 2, 2.5}, {2, 0, 0, 17}, {2, 2, 1, 16.25},
		{0, 2, 1, 1.25}, {2, 1, 1, 18.25}, {1, 0, 0, 16}, {1, 2, 3, 48.75},
	} {
		cost, ok := impl.LocalCost(v, p, m, c.x, c.y, c.d)
		wantNumber(t, fmt.Sprintf("LocalCost of %d at %d, %d", c.d, c.x, c.y), cost, ok, bitsOf(c.wanted))
	}
	for _, bad := range [][3]int64{{-1, 0, 0}, {3, 0, 0}, {0, -1, 0}, {0, 3, 0}, {0, 0, -1}, {0, 0, 4}, {0, 0, 8}, {math.MinInt64, 0, 0}, {0, math.MaxInt64, 0}, {0, 0, math.MinInt64}, {1 << 62, 1 << 62, 1 << 62}} {
		cost, ok := impl.LocalCost(v, p, m, bad[0], bad[1], bad[2])
		wantNoNumber(t, fmt.Sprint("LocalCost of ", bad), cost, ok)
	}
}

func TestLocalCostOfSpecialCosts(t *testing.T) {
	p := impl.Prices{One: 1, More: 2}
	for _, c := range []struct {
		what   string
		cost   uint32
		values []float32 // before in x, next in x, before in y, next in y
		wanted uint32
	}{
		// 1 is lost behind 16777216, and 2 is not; behind 16777218, 1 is rounded up.
		{"1 and 2 along x", bitsWhole, []float32{1, 2, 0, 0}, 0x4b800001},
		{"2 and 1 along x", bitsWhole, []float32{2, 1, 0, 0}, 0x4b800002},
		{"1 and 2 of the next x and the y before", bitsWhole, []float32{0, 1, 2, 0}, 0x4b800001},
		{"2 and 1 of the next x and the y before", bitsWhole, []float32{0, 2, 1, 0}, 0x4b800002},
		{"1 and 2 along y", bitsWhole, []float32{0, 0, 1, 2}, 0x4b800001},
		{"2 and 1 along y", bitsWhole, []float32{0, 0, 2, 1}, 0x4b800002},
		{"four times 1", bitsWhole, []float32{1, 1, 1, 1}, bitsWhole},
		{"a not-a-number", 0xff800001, []float32{0, 0, 0, 0}, nanBits},
		{"an infinity", bitsInf, []float32{0, 1, 2, 0}, bitsInf},
		{"the negative infinity", bitsLess, []float32{0, 1, 2, 0}, bitsLess},
		{"a cost less than 0", bitsHole, []float32{1, 0, 2, 0}, bitsTwo},
		{"-0 and prices +0", bitsNull, []float32{0, 0, 0, 0}, 0},
	} {
		v := emptyVolume(3, 3, 3)
		v.Costs[4*3] = at(c.cost)
		m := mapOf(3, 0, c.values[2], 0, c.values[0], 1, c.values[1], 0, c.values[3], 0)
		cost, ok := impl.LocalCost(v, p, m, 1, 1, 0)
		wantNumber(t, "LocalCost of "+c.what, cost, ok, c.wanted)
	}
	cost, ok := impl.LocalCost(volumeAt(1, 1, bitsNull), p, mapOf(1, 0), 0, 0, 0)
	wantNumber(t, "LocalCost of -0 alone", cost, ok, bitsNull)
}

// wantImproved checks a result of ImproveMap.
func wantImproved(t *testing.T, what string, v impl.Volume, p impl.Prices, m impl.Map, rounds int64, wanted impl.Map, changes int64) {
	t.Helper()
	got, count, ok := impl.ImproveMap(v, p, m, rounds)
	wantMap(t, "ImproveMap "+what, got, ok, wanted)
	want(t, "changes of ImproveMap "+what, count, changes)
}

func TestImproveMap(t *testing.T) {
	one := impl.Prices{One: 1, More: 1}
	square := impl.Volume{Wide: 2, High: 2, Deep: 2, Costs: []float32{0, 4, 0, 4, 0, 4, 1, 0}}
	wantImproved(t, "of a square", square, one, mapOf(2, 0, 0, 0, 1), 5, mapOf(2, 0, 0, 0, 0), 1)
	wantImproved(t, "of a square that is good", square, one, mapOf(2, 0, 0, 0, 0), 5, mapOf(2, 0, 0, 0, 0), 0)
	v := volumeOf(2, 3, 5, 2, 7, 4, 3, 1)
	wantImproved(t, "for nothing", v, impl.Prices{}, mapOf(2, 0, 0), 20, mapOf(2, 1, 2), 2)
	wantImproved(t, "no round", v, impl.Prices{}, mapOf(2, 0, 0), 0, mapOf(2, 0, 0), 0)
	wantImproved(t, "one round", v, impl.Prices{}, mapOf(2, 0, 0), 1, mapOf(2, 1, 2), 2)
	// The first cell is changed before the second one is looked at.
	wantImproved(t, "in order", volumeOf(2, 2, 5, 0, 1, 1), one, mapOf(2, 0, 0), 1, mapOf(2, 1, 1), 2)
	wantImproved(t, "of one column", impl.Volume{Wide: 1, High: 2, Deep: 2, Costs: []float32{5, 0, 1, 1}}, one, mapOf(1, 0, 0), 1, mapOf(1, 1, 1), 2)
	wantImproved(t, "of one cell", volumeOf(1, 3, 5, 4, 3), one, mapOf(1, 0), 20, mapOf(1, 2), 1)
	wantImproved(t, "of one disparity", volumeOf(3, 1, 5, 4, 3), one, mapOf(3, 0, 0, 0), 20, mapOf(3, 0, 0, 0), 0)
	wantImproved(t, "of steps", volumeOf(1, 8, 9, 8, 7, 6, 5, 4, 3, 2), one, mapOf(1, 0), 20, mapOf(1, 7), 1)
	// A value can change more than once: the cell behind draws the first one on.
	twice := volumeOf(2, 3, 9, 0, 1, 9, 9, 0)
	wantImproved(t, "of a value that changes twice, once", twice, impl.Prices{One: 2, More: 3}, mapOf(2, 0, 0), 1, mapOf(2, 1, 2), 2)
	wantImproved(t, "of a value that changes twice", twice, impl.Prices{One: 2, More: 3}, mapOf(2, 0, 0), 20, mapOf(2, 2, 2), 3)
}

func TestImproveMapOfEqualCosts(t *testing.T) {
	one := impl.Prices{One: 1, More: 1}
	wantImproved(t, "of equal costs", volumeOf(2, 3, 1, 1, 1, 1, 1, 1), one, mapOf(2, 2, 2), 20, mapOf(2, 2, 2), 0)
	wantImproved(t, "of equal costs for nothing", volumeOf(2, 3, 1, 1, 1, 1, 1, 1), impl.Prices{}, mapOf(2, 2, 1), 20, mapOf(2, 2, 1), 0)
	wantImproved(t, "to the first one of two", volumeOf(1, 4, 3, 1, 1, 2), one, mapOf(1, 3), 20, mapOf(1, 1), 1)
	wantImproved(t, "to the first one of two, from below", volumeOf(1, 4, 3, 1, 1, 2), one, mapOf(1, 0), 20, mapOf(1, 1), 1)
	wantImproved(t, "of the second one of two", volumeOf(1, 4, 3, 1, 1, 2), one, mapOf(1, 2), 20, mapOf(1, 2), 0)
	wantImproved(t, "of zeros of both signs", volumeAt(1, 2, 0, bitsNull), one, mapOf(1, 0), 20, mapOf(1, 0), 0)
	wantImproved(t, "of zeros of both signs, exchanged", volumeAt(1, 2, bitsNull, 0), one, mapOf(1, 1), 20, mapOf(1, 1), 0)
	// A value that does not change stays as it is.
	wantImproved(t, "of a value -0", volumeOf(1, 2, 1, 2), one, mapAt(1, bitsNull), 20, mapAt(1, bitsNull), 0)
	wantImproved(t, "of a value -0, no round", volumeOf(1, 2, 2, 1), one, mapAt(1, bitsNull), 0, mapAt(1, bitsNull), 0)
	wantImproved(t, "of a value -0 that changes", volumeOf(1, 2, 2, 1), one, mapAt(1, bitsNull), 1, mapOf(1, 1), 1)
	wantImproved(t, "to the value +0", volumeOf(1, 2, 1, 2), one, mapOf(1, 1), 1, mapAt(1, 0), 1)
}

// A not-a-number is never the least one, and nothing is less than one.
func TestImproveMapOfSpecialCosts(t *testing.T) {
	one := impl.Prices{One: 1, More: 1}
	for _, c := range []struct {
		what           string
		costs          []uint32
		before, behind float32
	}{
		{"a not-a-number first", []uint32{nanBits, bitsOne, bitsTwo}, 2, 1},
		{"a not-a-number last", []uint32{bitsTwo, bitsOne, 0xff800001}, 0, 1},
		{"a not-a-number at the value", []uint32{nanBits, bitsOne, bitsTwo}, 0, 0},
		{"not-a-numbers", []uint32{nanBits, nanBits, nanBits}, 1, 1},
		{"not-a-numbers but the value", []uint32{nanBits, bitsOne, nanBits}, 1, 1},
		{"an infinity at the value", []uint32{bitsTwo, bitsOne, bitsInf}, 2, 1},
		{"infinities", []uint32{bitsInf, bitsInf, bitsInf}, 2, 2},
		{"the negative infinity", []uint32{bitsTwo, bitsOne, bitsLess}, 0, 2},
		{"negative infinities", []uint32{bitsOne, bitsLess, bitsLess}, 0, 1},
		{"negative infinities, one at the value", []uint32{bitsOne, bitsLess, bitsLess}, 2, 2},
		{"an infinity and a not-a-number", []uint32{nanBits, bitsInf, bitsMost}, 1, 2},
	} {
		changes := int64(0)
		if c.before != c.behind {
			changes = 1
		}
		wantImproved(t, "of "+c.what, volumeAt(1, 3, c.costs...), one, mapOf(1, c.before), 20, mapOf(1, c.behind), changes)
	}
}

// A value at the end of a row is spread by one cell in each round.
func TestRoundsOfImproveMap(t *testing.T) {
	one := impl.Prices{One: 1, More: 1}
	v := emptyVolume(24, 1, 2)
	m, _ := impl.FlatMap(24, 1, 1)
	for x := range 24 {
		v.Costs[2*x+1] = 0.5
	}
	v.Costs[2*23+1], m.Values[23] = 9, 0
	for rounds := range int64(21) {
		wanted, _ := impl.FlatMap(24, 1, 1)
		for x := 23 - rounds; x < 24; x++ {
			wanted.Values[x] = 0
		}
		wantImproved(t, fmt.Sprint(rounds, " rounds"), v, one, m, rounds, wanted, rounds)
	}
	for _, rounds := range []int64{-1, 21, 22, math.MinInt64, math.MaxInt64, 1 << 32} {
		got, count, ok := impl.ImproveMap(v, one, m, rounds)
		wantNoMap(t, fmt.Sprint("ImproveMap of rounds: ", rounds), got, ok)
		want(t, "changes of ImproveMap that fails", count, 0)
	}
}

// A map costs no more than before, where nothing is rounded, and at last no
// value alone can be better.
func TestImprovedMapsCostLess(t *testing.T) {
	for i, size := range sizes() {
		deep := int64(1 + i%8)
		v := wholeVolume(size[0], size[1], deep, i)
		m := madeWhole(size[0], size[1], deep, i+1)
		p := wholePrices()[i%7]
		before, ok := impl.MapCost(v, p, m)
		want(t, "MapCost succeeds", ok, true)
		last, total := m, int64(0)
		for round := int64(1); round <= 20; round++ {
			next, count, ok := impl.ImproveMap(v, p, last, 1)
			want(t, "ImproveMap succeeds", ok, true)
			cost, ok := impl.MapCost(v, p, next)
			want(t, "MapCost succeeds", ok, true)
			if cost > before || count > 0 && cost == before {
				t.Fatalf("ImproveMap changes %d values: from %v to %v", count, before, cost)
			}
			last, before, total = next, cost, total+count
			wantImproved(t, "many rounds", v, p, m, round, last, total)
			if count == 0 {
				break
			}
		}
	}
}

func TestJumpsOf(t *testing.T) {
	v := emptyVolume(3, 2, 4)
	for _, c := range []struct {
		m      impl.Map
		wanted []int64
	}{
		{mapOf(3, 0, 0, 0, 0, 0, 0), []int64{7, 0, 0}},
		{mapOf(3, 0, 1, 3, 0, 3, 2), []int64{1, 3, 3}},
		{mapOf(3, 0, 1, 0, 1, 0, 1), []int64{0, 7, 0}},
		{mapOf(3, 0, 3, 0, 3, 0, 3), []int64{0, 0, 7}},
		{mapOf(3, 0, 2, 0, 2, 0, 2), []int64{0, 0, 7}},
		{mapOf(3, 3, 2, 1, 3, 2, 1), []int64{3, 4, 0}},
		{mapAt(3, bitsNull, 0, bitsNull, 0, bitsNull, bitsOne), []int64{5, 2, 0}},
	} {
		list, ok := impl.JumpsOf(v, c.m)
		wantList(t, fmt.Sprint("JumpsOf ", c.m.Values), list, ok, c.wanted...)
	}
	list, ok := impl.JumpsOf(volumeOf(1, 1, 5), mapOf(1, 0))
	wantList(t, "JumpsOf one cell", list, ok, 0, 0, 0)
	list, ok = impl.JumpsOf(emptyVolume(1, 3, 8), mapOf(1, 0, 7, 6))
	wantList(t, "JumpsOf a column", list, ok, 0, 1, 1)
}

// Jumps and their prices make up what a map costs more than its cells.
func TestJumpsTellPrices(t *testing.T) {
	for i, size := range sizes() {
		deep := int64(1 + i%8)
		v := wholeVolume(size[0], size[1], deep, i)
		m := madeWhole(size[0], size[1], deep, i+1)
		jumps, ok := impl.JumpsOf(v, m)
		want(t, "JumpsOf succeeds", ok, true)
		want(t, "number of JumpsOf", len(jumps), 3)
		pairs := size[0]*(size[1]-1) + size[1]*(size[0]-1)
		want(t, "sum of JumpsOf", jumps[0]+jumps[1]+jumps[2], pairs)
		cells, ok := impl.CostOfMap(v, m)
		want(t, "CostOfMap succeeds", ok, true)
		cost, ok := impl.MapCost(v, impl.Prices{One: 3, More: 10}, m)
		want(t, "MapCost succeeds", ok, true)
		want(t, "MapCost", cost, cells+float32(3*jumps[1]+10*jumps[2]))
		flat, _ := impl.FlatMap(size[0], size[1], 0)
		jumps, ok = impl.JumpsOf(v, flat)
		wantList(t, "JumpsOf a flat map", jumps, ok, pairs, 0, 0)
	}
}
