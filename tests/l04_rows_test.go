package tests

import (
	"fmt"
	"math"
	"slices"
	"testing"

	"loop.example/g01223/impl"
)

func TestRowCost(t *testing.T) {
	v := volumeOf(3, 3, 5, 1, 2, 4, 3, 9, 7, 0, 6, 1, 1, 1, 8, 2, 2, 2, 2, 16)
	p := impl.Prices{One: 10, More: 100}
	for _, c := range []struct {
		y      int64
		row    []int64
		wanted float32
	}{
		{0, []int64{0, 0, 0}, 16},
		{0, []int64{1, 1, 1}, 4},
		{0, []int64{0, 1, 2}, 34},
		{0, []int64{2, 1, 0}, 32},
		{0, []int64{0, 2, 0}, 221},
		{0, []int64{1, 2, 2}, 26},
		{1, []int64{0, 0, 0}, 11},
		{1, []int64{2, 0, 1}, 121},
		{1, []int64{2, 2, 2}, 19},
	} {
		cost, ok := impl.RowCost(v, p, c.y, c.row)
		wantNumber(t, fmt.Sprint("RowCost of ", c.row), cost, ok, bitsOf(c.wanted))
	}
}

func TestRowCostOfSpecialCosts(t *testing.T) {
	for _, c := range []struct {
		what      string
		costs     []uint32
		one, more uint32
		wanted    uint32
	}{
		{"one -0", []uint32{bitsNull}, bitsOne, bitsTwo, bitsNull},
		{"two -0, with the price +0 between", []uint32{bitsNull, bitsNull}, bitsOne, bitsTwo, 0},
		{"one not-a-number", []uint32{nanBits}, bitsOne, bitsTwo, nanBits},
		{"a not-a-number behind others", []uint32{bitsOne, bitsTwo, 0xff800001}, bitsOne, bitsTwo, nanBits},
		{"an infinity", []uint32{bitsOne, bitsInf, bitsOne}, bitsOne, bitsTwo, bitsInf},
		{"both infinities", []uint32{bitsInf, bitsOne, bitsLess}, bitsOne, bitsTwo, nanBits},
		{"costs less than 0", []uint32{bitsHole, bitsHole}, bitsOne, bitsTwo, 0xc0000000},
		{"a sum that is too great", []uint32{bitsMost, bitsMost}, 0, 0, bitsInf},
		{"sums from the left", []uint32{bitsWhole, bitsOne, bitsOne}, 0, 0, bitsWhole},
		{"sums from the left, exchanged", []uint32{bitsOne, bitsOne, bitsWhole}, 0, 0, 0x4b800001},
	} {
		v := volumeAt(int64(len(c.costs)), 1, c.costs...)
		cost, ok := impl.RowCost(v, pricesAt(c.one, c.more), 0, make([]int64, len(c.costs)))
		wantNumber(t, "RowCost of "+c.what, cost, ok, c.wanted)
	}
	// The price is added on its own: 1 is lost twice, or 2 is not.
	cost, ok := impl.RowCost(volumeAt(2, 2, bitsWhole, 0, 0, bitsOne), pricesAt(bitsOne, bitsOne), 0, []int64{0, 1})
	wantNumber(t, "RowCost of two numbers that are lost", cost, ok, bitsWhole)
	// Prices are added before costs: 16777216 and 2 and 1 is 16777220, and not 16777218.
	cost, ok = impl.RowCost(volumeAt(2, 2, bitsWhole, 0, 0, bitsOne), pricesAt(bitsTwo, bitsTwo), 0, []int64{0, 1})
	wantNumber(t, "RowCost of a price and a cost", cost, ok, 0x4b800002)
	// -0 stays where prices are -0, too.
	cost, ok = impl.RowCost(volumeAt(2, 2, bitsNull, 0, 0, bitsNull), pricesAt(bitsNull, 0), 0, []int64{0, 1})
	wantNumber(t, "RowCost of -0 for -0", cost, ok, bitsNull)
}

func TestRowCostThatDoesNotExist(t *testing.T) {
	v := countedVolume(3, 2, 4)
	p := impl.Prices{One: 1, More: 2}
	for _, row := range [][]int64{nil, {}, {0}, {0, 0}, {0, 0, 0, 0}, {0, 0, 4}, {4, 0, 0}, {0, 4, 0}, {-1, 0, 0}, {0, -1, 0}, {0, 0, -1}, {0, 0, 8}, {math.MinInt64, 0, 0}, {0, math.MaxInt64, 0}, make([]int64, 24), make([]int64, 300)} {
		cost, ok := impl.RowCost(v, p, 0, row)
		wantNoNumber(t, fmt.Sprint("RowCost of ", row), cost, ok)
	}
	for _, y := range []int64{-1, 2, 3, math.MinInt64, math.MaxInt64, 1 << 62} {
		cost, ok := impl.RowCost(v, p, y, []int64{0, 0, 0})
		wantNoNumber(t, fmt.Sprint("RowCost of the row ", y), cost, ok)
		row, cost, ok := impl.SolveRow(v, p, y)
		wantNoNumber(t, fmt.Sprint("cost of SolveRow of the row ", y), cost, ok)
		want(t, "SolveRow of no row", len(row), 0)
	}
}

// wantSolved checks a row that is solved.
func wantSolved(t *testing.T, what string, v impl.Volume, p impl.Prices, y int64, row []int64, cost uint32) {
	t.Helper()
	got, sum, ok := impl.SolveRow(v, p, y)
	wantList(t, "SolveRow of "+what, got, ok, row...)
	wantBits(t, "cost of SolveRow of "+what, sum, cost)
	again, ok := impl.RowCost(v, p, y, row)
	wantNumber(t, "RowCost of "+what, again, ok, cost)
}

func TestSolveRow(t *testing.T) {
	v := volumeOf(3, 2, 0, 3, 3, 0, 0, 3)
	two := impl.Prices{One: 2, More: 2}
	wantSolved(t, "the example", v, two, 0, []int64{0, 0, 0}, bitsThree)
	wantSolved(t, "the example for 1", v, impl.Prices{One: 1, More: 1}, 0, []int64{0, 1, 0}, bitsTwo)
	wantSolved(t, "the example for nothing", v, impl.Prices{}, 0, []int64{0, 1, 0}, 0)
	wantSolved(t, "steps that cost nothing", v, impl.Prices{One: 0, More: 9}, 0, []int64{0, 1, 0}, 0)
	high := volumeOf(2, 3, 9, 9, 1, 0, 9, 9, 9, 0, 9, 9, 9, 0)
	wantSolved(t, "a greater jump", high, impl.Prices{One: 2, More: 5}, 0, []int64{2, 0}, bitsSix)
	wantSolved(t, "a greater jump that costs too much", high, impl.Prices{One: 2, More: 16}, 0, []int64{0, 0}, 0x41100000)
	wantSolved(t, "the next row", high, impl.Prices{One: 2, More: 5}, 1, []int64{1, 2}, bitsTwo)
	wantSolved(t, "eight disparities", volumeOf(2, 8, 9, 9, 9, 9, 9, 9, 9, 0, 0, 9, 9, 9, 9, 9, 9, 9), impl.Prices{One: 1, More: 3}, 0, []int64{7, 0}, bitsThree)
}

func TestSolveRowOfEqualCosts(t *testing.T) {
	nothing := impl.Prices{}
	one := impl.Prices{One: 1, More: 1}
	for _, c := range []struct {
		what   string
		prices impl.Prices
		deep   int64
		costs  []float32
		row    []int64
		cost   float32
	}{
		{"equal costs", one, 3, []float32{2, 2, 2, 2, 2, 2, 2, 2, 2}, []int64{0, 0, 0}, 6},
		{"equal costs for nothing", nothing, 3, []float32{2, 2, 2, 2, 2, 2, 2, 2, 2}, []int64{0, 0, 0}, 6},
		{"the least of the last ones", nothing, 3, []float32{3, 1, 1, 5, 4, 4}, []int64{1, 1}, 5},
		{"the least of those before, though another one stays", nothing, 2, []float32{0, 0, 5, 3}, []int64{0, 1}, 3},
		{"the least of those before, though another one is nearer", impl.Prices{One: 2, More: 2}, 3, []float32{0, 0, 9, 9, 9, 0}, []int64{0, 2}, 2},
		{"one that jumps is taken before one that stays", one, 2, []float32{0, 1, 9, 0}, []int64{0, 1}, 1},
		{"one that stays is taken before one that jumps", one, 2, []float32{1, 0, 0, 9}, []int64{0, 0}, 1},
		{"rows of equal costs", impl.Prices{One: 3, More: 3}, 2, []float32{0, 3, 3, 0, 3, 0}, []int64{0, 1, 1}, 3},
		{"rows of equal costs that end with 0", impl.Prices{One: 3, More: 3}, 2, []float32{0, 3, 0, 3, 3, 0}, []int64{0, 0, 0}, 3},
		{"one column", one, 4, []float32{3, 2, 4, 2}, []int64{1}, 2},
		{"one disparity", one, 1, []float32{3, 2, 4, 2}, []int64{0, 0, 0, 0}, 11},
		{"one cost", one, 1, []float32{7}, []int64{0}, 7},
	} {
		v := volumeOf(int64(len(c.costs))/c.deep, c.deep, c.costs...)
		wantSolved(t, c.what, v, c.prices, 0, c.row, bitsOf(c.cost))
	}
}

func TestSolveRowOfSpecialCosts(t *testing.T) {
	for _, c := range []struct {
		what      string
		one, more uint32
		deep      int64
		costs     []uint32
		row       []int64
		cost      uint32
	}{
		{"infinities", bitsOne, bitsTwo, 2, []uint32{bitsInf, bitsInf, bitsInf, bitsInf}, []int64{0, 0}, bitsInf},
		{"infinities that are avoided", bitsOne, bitsTwo, 2, []uint32{bitsInf, bitsOne, bitsOne, bitsInf}, []int64{1, 0}, bitsThree},
		{"infinities at the first cell alone", bitsOne, bitsTwo, 2, []uint32{bitsInf, bitsInf, bitsOne, 0}, []int64{0, 0}, bitsInf},
		{"a sum that is too great", bitsOne, bitsTwo, 1, []uint32{bitsMost, bitsMost}, []int64{0, 0}, bitsInf},
		{"a price that is too great", bitsMost, bitsMost, 2, []uint32{bitsInf, bitsMost, bitsMost, bitsInf}, []int64{0, 0}, bitsInf},
		{"-0 before +0", bitsOne, bitsTwo, 2, []uint32{bitsNull, 0}, []int64{0}, bitsNull},
		{"+0 before -0", bitsOne, bitsTwo, 2, []uint32{0, bitsNull}, []int64{0}, 0},
		{"one -0", bitsOne, bitsTwo, 1, []uint32{bitsNull}, []int64{0}, bitsNull},
		{"-0 and the price +0", bitsOne, bitsTwo, 1, []uint32{bitsNull, bitsNull}, []int64{0, 0}, 0},
		{"-0 and the price -0", bitsNull, bitsTwo, 2, []uint32{bitsNull, bitsOne, bitsOne, bitsNull}, []int64{0, 1}, bitsNull},
		{"-0 that is taken behind +0", bitsNull, bitsNull, 2, []uint32{0, bitsNull, bitsOne, bitsNull}, []int64{0, 1}, 0},
		{"subnormal costs", 1, 2, 2, []uint32{3, 1, 1, 3}, []int64{1, 0}, 3},
		{"sums that are equal where they are rounded", bitsOne, bitsOne, 2, []uint32{bitsWhole, bitsWhole, bitsFive, 0}, []int64{0, 1}, bitsWhole},
		{"costs that are lost", bitsOne, bitsOne, 2, []uint32{bitsWhole, bitsInf, bitsOne, 0, 0, bitsInf}, []int64{0, 0, 0}, bitsWhole},
	} {
		v := volumeAt(int64(len(c.costs))/c.deep, c.deep, c.costs...)
		wantSolved(t, c.what, v, pricesAt(c.one, c.more), 0, c.row, c.cost)
	}
}

// A cost that is a not-a-number or less than 0 spoils its row, and its columns
// and maps, even if no good row would take it.
func TestRowsThatAreNotSolved(t *testing.T) {
	p := impl.Prices{One: 1, More: 2}
	for _, bad := range []uint32{nanBits, 0xffc00000, 0xff800001, bitsHole, 0x80000001, bitsLess, 0xff7fffff} {
		for i := range 3 * 2 * 4 {
			v := emptyVolume(3, 2, 4)
			v.Costs[i] = at(bad)
			for y := range int64(2) {
				row, cost, ok := impl.SolveRow(v, p, y)
				if int64(i)/12 != y {
					wantList(t, "SolveRow of the other row", row, ok, 0, 0, 0)
					wantBits(t, "cost of SolveRow of the other row", cost, 0)
					continue
				}
				wantNoNumber(t, "cost of SolveRow", cost, ok)
				want(t, "SolveRow", len(row), 0)
			}
			m, ok := impl.SolveRows(v, p)
			wantNoMap(t, "SolveRows", m, ok)
			m, ok = impl.SolveColumns(v, p)
			wantNoMap(t, "SolveColumns", m, ok)
		}
	}
	v := volumeAt(2, 1, bitsNull, 0)
	wantSolved(t, "-0, which is not less than 0", v, p, 0, []int64{0, 0}, 0)
}

// No row costs less than the one that is found, even where sums are rounded.
func TestNoRowCostsLess(t *testing.T) {
	for i, size := range [][2]int64{{1, 8}, {2, 8}, {3, 7}, {4, 5}, {5, 4}, {6, 3}, {9, 2}, {24, 1}} {
		for seed := range 40 {
			kind := seed % madeKinds
			v := payable(madeVolume(kind, size[0], 2, size[1], 100*i+seed))
			p := madePrices(kind, 100*i+seed+1)
			y := int64(seed % 2)
			row, cost, ok := impl.SolveRow(v, p, y)
			want(t, "SolveRow succeeds", ok, true)
			own, ok := impl.RowCost(v, p, y, row)
			wantNumber(t, "RowCost of SolveRow", own, ok, bitsOf(cost))
			rowsOf(size[0], size[1], func(other []int64) {
				less, ok := impl.RowCost(v, p, y, other)
				if !ok || less < cost {
					t.Fatalf("%v costs %v, but the solved row %v costs %v", other, less, row, cost)
				}
			})
		}
	}
}

// The same with the greatest sizes, but with some other rows only.
func TestNoRowOfGreatestSizesCostsLess(t *testing.T) {
	for kind := range madeKinds {
		for i, made := range volumesOfGreatest(kind) {
			v := payable(made)
			p := madePrices(kind, i)
			m, ok := impl.SolveRows(v, p)
			want(t, "SolveRows succeeds", ok, true)
			want(t, "IsWhole", impl.IsWhole(v, m), true)
			for y := range v.High {
				row, cost, ok := impl.SolveRow(v, p, y)
				want(t, "SolveRow succeeds", ok, true)
				own, ok := impl.RowCost(v, p, y, row)
				wantNumber(t, "RowCost of SolveRow", own, ok, bitsOf(cost))
				for x, d := range row {
					wantBits(t, "value of SolveRows", m.Values[y*v.Wide+int64(x)], bitsOf(float32(d)))
					for e := range v.Deep {
						other := slices.Clone(row)
						other[x] = e
						less, ok := impl.RowCost(v, p, y, other)
						if !ok || less < cost {
							t.Fatalf("%v costs %v, but the solved row %v costs %v", other, less, row, cost)
						}
						for u := x; u < len(other); u++ {
							other[u] = e
						}
						less, ok = impl.RowCost(v, p, y, other)
						if !ok || less < cost {
							t.Fatalf("%v costs %v, but the solved row %v costs %v", other, less, row, cost)
						}
					}
				}
			}
		}
	}
}

func TestSolveRowsAndColumns(t *testing.T) {
	v := volumeOf(2, 3, 9, 9, 1, 0, 9, 9, 9, 0, 9, 9, 9, 0)
	p := impl.Prices{One: 2, More: 5}
	m, ok := impl.SolveRows(v, p)
	wantMap(t, "SolveRows", m, ok, mapOf(2, 2, 0, 1, 2))
	m, ok = impl.SolveColumns(v, p)
	wantMap(t, "SolveColumns", m, ok, mapOf(2, 2, 0, 1, 2))
	p = impl.Prices{One: 9, More: 9}
	m, ok = impl.SolveRows(v, p)
	wantMap(t, "SolveRows for 9", m, ok, mapOf(2, 0, 0, 1, 1))
	m, ok = impl.SolveColumns(v, p)
	wantMap(t, "SolveColumns for 9", m, ok, mapOf(2, 1, 0, 1, 0))
	example := volumeOf(3, 2, 0, 3, 3, 0, 0, 3)
	two := impl.Prices{One: 2, More: 2}
	m, ok = impl.SolveRows(example, two)
	wantMap(t, "SolveRows of the example", m, ok, mapOf(3, 0, 0, 0))
	m, ok = impl.SolveColumns(example, two)
	wantMap(t, "SolveColumns of columns of one cell", m, ok, mapOf(3, 0, 1, 0))
	column := changed(t, example, impl.SwapVolume)
	m, ok = impl.SolveColumns(column, two)
	wantMap(t, "SolveColumns of a column", m, ok, mapOf(1, 0, 0, 0))
	m, ok = impl.SolveRows(column, two)
	wantMap(t, "SolveRows of rows of one cell", m, ok, mapOf(1, 0, 1, 0))
}

// Columns are solved as the rows of the volume with rows as columns.
func TestColumnsAreRows(t *testing.T) {
	for i, size := range sizes() {
		kind := i % madeKinds
		v := payable(madeVolume(kind, size[0], size[1], int64(1+i%8), i))
		p := madePrices(kind, i+1)
		m, ok := impl.SolveColumns(v, p)
		want(t, "SolveColumns succeeds", ok, true)
		want(t, "IsWhole", impl.IsWhole(v, m), true)
		swap := changed(t, v, impl.SwapVolume)
		for x := range v.Wide {
			row, _, ok := impl.SolveRow(swap, p, x)
			want(t, "SolveRow succeeds", ok, true)
			for y, d := range row {
				wantBits(t, "value of SolveColumns", m.Values[x+v.Wide*int64(y)], bitsOf(float32(d)))
			}
		}
	}
}
