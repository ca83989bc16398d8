package tests

import (
	"fmt"
	"math"
	"testing"

	"loop.example/g01223/impl"
)

func TestJumpCosts(t *testing.T) {
	for _, c := range []struct {
		what      string
		before    []uint32
		one, more uint32
		wanted    []uint32
	}{
		{"the example", []uint32{bitsFive, 0, 0x41100000}, bitsOne, bitsTwo, []uint32{bitsOne, 0, bitsOne}},
		{"one cost", []uint32{bitsFive}, bitsOne, bitsTwo, []uint32{bitsFive}},
		{"one cost and prices of nothing", []uint32{bitsFive}, 0, 0, []uint32{bitsFive}},
		{"staying", []uint32{bitsOne, bitsTwo, bitsOne}, bitsTwo, bitsThree, []uint32{bitsOne, bitsTwo, bitsOne}},
		{"a jump up", []uint32{bitsOne, bitsSeven}, bitsTwo, bitsTwo, []uint32{bitsOne, bitsThree}},
		{"a jump down", []uint32{bitsSeven, bitsOne}, bitsTwo, bitsTwo, []uint32{bitsThree, bitsOne}},
		{"jumps from both sides", []uint32{bitsTwo, bitsSeven, bitsOne}, bitsOne, 0x42c80000, []uint32{bitsTwo, bitsTwo, bitsOne}},
		{"jumps over others", []uint32{0, bitsSeven, bitsSeven, bitsSeven}, bitsTwo, bitsThree, []uint32{0, bitsTwo, bitsThree, bitsThree}},
		{"eight costs", []uint32{bitsSeven, bitsSeven, bitsSix, bitsFive, bitsOne, bitsSeven, bitsTwo, bitsSeven}, bitsOne, bitsFour,
			[]uint32{bitsFive, bitsFive, bitsFive, bitsTwo, bitsOne, bitsTwo, bitsTwo, bitsThree}},
		{"prices of nothing", []uint32{bitsFive, 0, bitsSeven, bitsSix}, 0, 0, []uint32{0, 0, 0, 0}},
		{"One of nothing", []uint32{bitsFive, 0, bitsSeven, bitsSeven, bitsSeven}, 0, bitsFive, []uint32{0, 0, 0, bitsFive, bitsFive}},
		{"costs less than 0", []uint32{0xc0400000, 0, bitsFour}, bitsOne, bitsTwo, []uint32{0xc0400000, 0xc0000000, bitsHole}},
		{"a not-a-number first", []uint32{nanBits, bitsOne, bitsSeven, bitsSeven}, bitsOne, bitsTwo, []uint32{nanBits, bitsOne, bitsTwo, bitsSeven}},
		{"a not-a-number behind", []uint32{bitsOne, nanBits, bitsSeven, bitsSeven}, bitsOne, bitsTwo, []uint32{bitsOne, nanBits, bitsThree, bitsThree}},
		{"a not-a-number last", []uint32{bitsSeven, bitsOne, 0xff800001}, bitsOne, bitsTwo, []uint32{bitsTwo, bitsOne, nanBits}},
		{"not-a-numbers", []uint32{nanBits, nanBits}, bitsOne, bitsTwo, []uint32{nanBits, nanBits}},
		{"infinities beside a cost", []uint32{bitsInf, bitsOne, bitsInf, bitsInf}, bitsOne, bitsThree, []uint32{bitsTwo, bitsOne, bitsTwo, bitsFour}},
		{"infinities", []uint32{bitsInf, bitsInf, bitsInf}, bitsOne, bitsTwo, []uint32{bitsInf, bitsInf, bitsInf}},
		{"the negative infinity", []uint32{bitsLess, bitsFive, bitsSix}, bitsOne, bitsTwo, []uint32{bitsLess, bitsLess, bitsLess}},
		{"both infinities", []uint32{bitsInf, bitsSix, bitsInf, bitsLess}, bitsMost, bitsMost, []uint32{bitsLess, bitsLess, bitsLess, bitsLess}},
		{"sums that are rounded", []uint32{bitsWhole, 0x4b800004, 0x4b800008}, bitsOne, bitsTwo, []uint32{bitsWhole, bitsWhole, 0x4b800001}},
		{"sums that are too great", []uint32{bitsInf, bitsMost, bitsInf, bitsInf}, bitsMost, bitsMost, []uint32{bitsInf, bitsMost, bitsInf, bitsInf}},
		{"subnormal costs", []uint32{1, 9, 9}, 2, 3, []uint32{1, 3, 4}},
		{"-0 first", []uint32{bitsNull, 0}, 0, 0, []uint32{bitsNull, 0}},
		{"+0 first", []uint32{0, bitsNull}, 0, 0, []uint32{0, bitsNull}},
		{"-0 and +0", []uint32{bitsFive, bitsNull}, 0, 0, []uint32{0, bitsNull}},
		{"-0 and -0", []uint32{bitsFive, bitsNull}, bitsNull, 0, []uint32{bitsNull, bitsNull}},
		{"d before d - 1", []uint32{bitsNull, 0}, bitsNull, bitsNull, []uint32{bitsNull, 0}},
		{"d - 1 before d + 1", []uint32{0, bitsFive, bitsNull}, bitsNull, bitsOne, []uint32{0, 0, bitsNull}},
		{"d - 1 before d + 1, exchanged", []uint32{bitsNull, bitsFive, 0}, bitsNull, bitsOne, []uint32{bitsNull, bitsNull, 0}},
		{"d + 1 before the least one", []uint32{0, bitsFive, bitsFive, bitsNull}, bitsNull, bitsNull, []uint32{0, 0, bitsNull, bitsNull}},
		{"the first zero is the least one", []uint32{0, bitsFive, bitsFive, bitsFive, bitsNull, bitsFive, bitsFive}, bitsOne, bitsOne,
			[]uint32{0, bitsOne, bitsOne, bitsOne, bitsNull, bitsOne, bitsOne}},
		{"the first zero is +0", []uint32{0, bitsFive, bitsFive, bitsNull}, 0, bitsNull, []uint32{0, 0, 0, bitsNull}},
		{"the first zero is -0", []uint32{bitsNull, bitsFive, bitsFive, 0}, 0, bitsNull, []uint32{bitsNull, 0, 0, 0}},
		{"the least one is +0", []uint32{0, bitsFive, bitsFive, bitsFive, bitsNull}, 0, bitsNull, []uint32{0, 0, 0, 0, bitsNull}},
		{"the least one is -0", []uint32{bitsNull, bitsFive, bitsFive, bitsFive, 0}, 0, bitsNull, []uint32{bitsNull, 0, bitsNull, 0, 0}},
	} {
		list, ok := impl.JumpCosts(listOf(c.before...), pricesAt(c.one, c.more))
		want(t, "JumpCosts succeeds", ok, true)
		want(t, "JumpCosts of "+c.what, fmt.Sprintf("%08x", bitsOfList(list)), fmt.Sprintf("%08x", c.wanted))
	}
}

func TestJumpCostsThatDoNotExist(t *testing.T) {
	p := impl.Prices{One: 1, More: 2}
	for _, count := range []int{0, 9, 10, 16, 256} {
		list, ok := impl.JumpCosts(make([]float32, count), p)
		want(t, "JumpCosts succeeds", ok, false)
		want(t, "JumpCosts of a wrong number of costs", len(list), 0)
	}
	list, ok := impl.JumpCosts(nil, p)
	want(t, "JumpCosts of nil", fmt.Sprint(len(list), ok), "0 false")
	for what, bad := range invalidPrices() {
		list, ok := impl.JumpCosts([]float32{1, 2}, bad)
		want(t, "JumpCosts: "+what, fmt.Sprint(len(list), ok), "0 false")
	}
}

// Each of them is the least one of the sums of all costs and prices.
func TestJumpCostsAreLeast(t *testing.T) {
	for i := range 4000 {
		kind := i % madeKinds
		if kind == madeAny || kind == madeSpecial {
			continue
		}
		before := payable(madeVolume(kind, 1, 1, int64(1+i%8), i)).Costs
		p := madePrices(kind, i+1)
		list, ok := impl.JumpCosts(before, p)
		want(t, "JumpCosts succeeds", ok, true)
		want(t, "number of JumpCosts", len(list), len(before))
		for d, got := range list {
			least := float32(math.Inf(1))
			for e, cost := range before {
				least = min(least, cost+jumpPrice(p, int64(e), int64(d)))
			}
			if got != least {
				t.Errorf("JumpCosts of %v for %v: got %v, want %v", before, p, list, least)
			}
		}
	}
}

// The document's row of costs, from both sides.
func TestPathsOfARow(t *testing.T) {
	v := volumeOf(3, 2, 0, 3, 3, 0, 0, 3)
	p := impl.Prices{One: 2, More: 2}
	for _, c := range []struct {
		direction int64
		raw, path impl.Volume
	}{
		{0, volumeOf(3, 2, 0, 3, 3, 2, 3, 5), volumeOf(3, 2, 0, 3, 3, 2, 1, 3)},
		{1, volumeOf(3, 2, 3, 5, 3, 2, 0, 3), volumeOf(3, 2, 1, 3, 3, 2, 0, 3)},
		{2, v, v}, {3, v, v}, {4, v, v}, {5, v, v}, {6, v, v}, {7, v, v},
	} {
		raw, ok := impl.RawPath(v, p, c.direction)
		wantVolume(t, fmt.Sprint("RawPath along ", c.direction), raw, ok, c.raw)
		path, ok := impl.PathVolume(v, p, c.direction)
		wantVolume(t, fmt.Sprint("PathVolume along ", c.direction), path, ok, c.path)
	}
	both, ok := impl.BothWays(v, p)
	wantVolume(t, "BothWays", both, ok, volumeOf(3, 2, 3, 5, 3, 4, 3, 5))
	sum, ok := impl.SumPaths(v, p, 1)
	wantVolume(t, "SumPaths of 1", sum, ok, volumeOf(3, 2, 0, 3, 3, 2, 1, 3))
	sum, ok = impl.SumPaths(v, p, 2)
	wantVolume(t, "SumPaths of 2", sum, ok, volumeOf(3, 2, 1, 6, 6, 4, 1, 6))
	sum, ok = impl.SumPaths(v, p, 3)
	wantVolume(t, "SumPaths of 3", sum, ok, volumeOf(3, 2, 1, 9, 9, 4, 1, 9))
}

// wantPaths checks the paths from the first one of two cells to the other one.
func wantPaths(t *testing.T, what string, deep int64, p impl.Prices, costs, raw, path []uint32) {
	t.Helper()
	v := volumeAt(2, deep, costs...)
	first := costs[:deep]
	got, ok := impl.RawPath(v, p, 0)
	wantVolume(t, "RawPath of "+what, got, ok, volumeAt(2, deep, append(append([]uint32{}, first...), raw...)...))
	got, ok = impl.PathVolume(v, p, 0)
	wantVolume(t, "PathVolume of "+what, got, ok, volumeAt(2, deep, append(append([]uint32{}, first...), path...)...))
}

func TestPathsOfSpecialCosts(t *testing.T) {
	p := impl.Prices{One: 1, More: 2}
	wantPaths(t, "a not-a-number before, which is the least one", 3, p,
		[]uint32{nanBits, bitsThree, bitsSeven, 0, 0, 0},
		[]uint32{nanBits, bitsThree, bitsFour}, []uint32{nanBits, nanBits, nanBits})
	wantPaths(t, "a not-a-number before, which is not the first one", 3, p,
		[]uint32{bitsThree, nanBits, bitsSeven, 0, 0, 0},
		[]uint32{bitsThree, nanBits, bitsFive}, []uint32{0, nanBits, bitsTwo})
	wantPaths(t, "a not-a-number at the cell", 3, p,
		[]uint32{bitsThree, bitsFour, bitsFive, 0, nanBits, 0},
		[]uint32{bitsThree, nanBits, bitsFive}, []uint32{0, nanBits, bitsTwo})
	wantPaths(t, "an infinity before", 2, p,
		[]uint32{bitsInf, bitsThree, bitsOne, bitsOne},
		[]uint32{bitsFive, bitsFour}, []uint32{bitsTwo, bitsOne})
	wantPaths(t, "infinities before", 2, p,
		[]uint32{bitsInf, bitsInf, bitsOne, bitsOne},
		[]uint32{bitsInf, bitsInf}, []uint32{nanBits, nanBits})
	wantPaths(t, "the negative infinity before", 2, p,
		[]uint32{bitsOne, bitsLess, bitsOne, bitsInf},
		[]uint32{bitsLess, nanBits}, []uint32{nanBits, nanBits})
	wantPaths(t, "infinities at the cell", 2, p,
		[]uint32{bitsOne, bitsTwo, bitsInf, bitsLess},
		[]uint32{bitsInf, bitsLess}, []uint32{bitsInf, bitsLess})
	wantPaths(t, "costs less than 0", 2, p,
		[]uint32{bitsHole, bitsThree, 0xc0000000, bitsFour},
		[]uint32{0xc0400000, bitsFour}, []uint32{0xc0000000, bitsFive})
	wantPaths(t, "zeros", 2, impl.Prices{},
		[]uint32{bitsNull, bitsNull, bitsNull, 0},
		[]uint32{bitsNull, 0}, []uint32{0, 0})
	wantPaths(t, "a difference that is made first", 1, p,
		[]uint32{bitsWhole, bitsOne},
		[]uint32{bitsWhole}, []uint32{bitsOne})
	wantPaths(t, "differences that are rounded", 2, p,
		[]uint32{bitsHole, bitsWhole, 0x33800000, bitsSeven},
		[]uint32{0xbf7fffff, bitsSeven}, []uint32{0x33800000, 0x41000000})
	wantPaths(t, "sums that are too great", 2, p,
		[]uint32{bitsMost, bitsMost, bitsMost, bitsInf},
		[]uint32{bitsInf, bitsInf}, []uint32{bitsMost, bitsInf})
}

// A path of prices of nothing costs the least of all costs on the way.
func TestPathsOfPricesOfNothing(t *testing.T) {
	v := volumeOf(4, 3, 5, 2, 7, 1, 4, 3, 6, 6, 0, 2, 1, 9)
	raw, ok := impl.RawPath(v, impl.Prices{}, 0)
	wantVolume(t, "RawPath for nothing", raw, ok, volumeOf(4, 3, 5, 2, 7, 3, 6, 5, 9, 9, 3, 5, 4, 12))
	path, ok := impl.PathVolume(v, impl.Prices{}, 0)
	wantVolume(t, "PathVolume for nothing", path, ok, v)
	path, ok = impl.PathVolume(v, impl.Prices{}, 1)
	wantVolume(t, "PathVolume for nothing, back", path, ok, v)
	// Steps cost nothing, greater jumps something.
	raw, ok = impl.RawPath(v, impl.Prices{One: 0, More: 2}, 0)
	wantVolume(t, "RawPath for One of nothing", raw, ok, volumeOf(4, 3, 5, 2, 7, 3, 6, 5, 9, 9, 5, 9, 6, 14))
}

// Of one disparity, a path costs what stands along its way.
func TestWaysOfPaths(t *testing.T) {
	p := impl.Prices{One: 1, More: 2}
	for i, size := range sizes() {
		v := wholeVolume(size[0], size[1], 1, i)
		for direction, step := range steps {
			raw, ok := impl.RawPath(v, p, int64(direction))
			want(t, "RawPath succeeds", ok, true)
			path, ok := impl.PathVolume(v, p, int64(direction))
			wantVolume(t, "PathVolume of one disparity", path, ok, v)
			for y := range v.High {
				for x := range v.Wide {
					sum := float32(0)
					for u, w := x, y; isCell(v, u, w); u, w = u-step[0], w-step[1] {
						sum += costAt(v, u, w, 0)
					}
					if got := costAt(raw, x, y, 0); got != sum {
						t.Fatalf("RawPath along %d of %v at %d, %d: got %v, want %v", direction, size, x, y, got, sum)
					}
				}
			}
		}
	}
}

// wayTo returns the costs of the cells on the way to a cell, which is the last
// one.
func wayTo(v impl.Volume, step [2]int64, x, y int64) impl.Volume {
	var costs []float32
	for u, w := x, y; isCell(v, u, w); u, w = u-step[0], w-step[1] {
		from := (u + v.Wide*w) * v.Deep
		costs = append(append([]float32{}, v.Costs[from:from+v.Deep]...), costs...)
	}
	return impl.Volume{Wide: int64(len(costs)) / v.Deep, High: 1, Deep: v.Deep, Costs: costs}
}

// leastRows returns for each disparity of the last cell of a row the least cost
// of all rows of disparities that end there.
func leastRows(v impl.Volume, p impl.Prices) []float32 {
	list := make([]float32, v.Deep)
	for d := range list {
		list[d] = float32(math.Inf(1))
	}
	rowsOf(v.Wide, v.Deep, func(row []int64) {
		last := row[v.Wide-1]
		list[last] = min(list[last], costOfRow(v, p, row))
	})
	return list
}

// costOfRow tells what the first row of a volume costs.
func costOfRow(v impl.Volume, p impl.Prices, row []int64) float32 {
	sum := float32(0)
	for x, d := range row {
		if x > 0 {
			sum += jumpPrice(p, row[x-1], d)
		}
		sum += costAt(v, int64(x), 0, d)
	}
	return sum
}

// A path costs the least of all ways of jumping that end there; where its
// numbers do not grow, less the same number for each disparity.
func TestPathsCostLeast(t *testing.T) {
	for i, size := range [][3]int64{{5, 4, 3}, {4, 5, 4}, {6, 3, 2}, {3, 3, 8}, {1, 5, 4}, {7, 1, 3}, {2, 2, 7}} {
		v := wholeVolume(size[0], size[1], size[2], 40+i)
		for _, p := range wholePrices() {
			for direction, step := range steps {
				raw, ok := impl.RawPath(v, p, int64(direction))
				want(t, "RawPath succeeds", ok, true)
				path, ok := impl.PathVolume(v, p, int64(direction))
				want(t, "PathVolume succeeds", ok, true)
				for y := range v.High {
					for x := range v.Wide {
						way := wayTo(v, step, x, y)
						wanted := leastRows(way, p)
						first := costAt(raw, x, y, 0) - costAt(path, x, y, 0)
						for d := range v.Deep {
							got, less := costAt(raw, x, y, d), costAt(path, x, y, d)
							want(t, "cost of RawPath", got, wanted[d])
							want(t, "what PathVolume is less", got-less, first)
							if own := costAt(v, x, y, d); less < own || way.Wide > 1 && less > own+p.More {
								t.Errorf("PathVolume for %v: got %v, with the own cost %v", p, less, own)
							}
						}
					}
				}
			}
		}
	}
}

// BothWays tells the cost of the best row that has a disparity there.
func TestBothWaysCostLeast(t *testing.T) {
	for i, size := range [][2]int64{{5, 3}, {4, 4}, {6, 2}, {3, 8}, {1, 5}, {7, 3}, {9, 1}} {
		v := wholeVolume(size[0], 1, size[1], 60+i)
		for _, p := range wholePrices() {
			both, ok := impl.BothWays(v, p)
			want(t, "BothWays succeeds", ok, true)
			wanted := emptyVolume(v.Wide, 1, v.Deep)
			for j := range wanted.Costs {
				wanted.Costs[j] = float32(math.Inf(1))
			}
			rowsOf(v.Wide, v.Deep, func(row []int64) {
				cost := costOfRow(v, p, row)
				for x, d := range row {
					j := int64(x)*v.Deep + d
					wanted.Costs[j] = min(wanted.Costs[j], cost)
				}
			})
			wantVolume(t, "BothWays", both, ok, wanted)
		}
	}
}

// The sum comes first, and then the cost is taken away.
func TestBothWaysOfSpecialCosts(t *testing.T) {
	p := impl.Prices{One: 1, More: 2}
	for _, c := range []struct{ costs, wanted []uint32 }{
		{[]uint32{bitsOne}, []uint32{bitsOne}},
		{[]uint32{bitsNull}, []uint32{0}},
		{[]uint32{bitsMost}, []uint32{bitsInf}},
		{[]uint32{bitsInf}, []uint32{nanBits}},
		{[]uint32{bitsLess}, []uint32{nanBits}},
		{[]uint32{nanBits}, []uint32{nanBits}},
		// 16777216 and 1 is rounded to 16777216 before 1 is taken away.
		{[]uint32{bitsWhole, bitsOne}, []uint32{bitsWhole, 0x4b7fffff}},
		{[]uint32{bitsWhole, bitsThree}, []uint32{0x4b800002, 0x4b800002}},
	} {
		v := volumeAt(int64(len(c.costs)), 1, c.costs...)
		both, ok := impl.BothWays(v, p)
		wantVolume(t, "BothWays", both, ok, volumeAt(v.Wide, 1, c.wanted...))
	}
}

// SumPaths begins with +0, and adds the paths in the order of directions.
func TestSumPaths(t *testing.T) {
	sum, ok := impl.SumPaths(volumeAt(1, 2, bitsNull, bitsOne), impl.Prices{}, 1)
	wantVolume(t, "SumPaths of -0", sum, ok, volumeOf(1, 2, 0, 1))
	for kind := range madeKinds {
		for i, v := range volumesOfGreatest(kind) {
			p := madePrices(kind, i)
			wanted := emptyVolume(v.Wide, v.High, v.Deep)
			for directions := int64(1); directions <= 8; directions++ {
				path, ok := impl.PathVolume(v, p, directions-1)
				want(t, "PathVolume succeeds", ok, true)
				for j, cost := range path.Costs {
					wanted.Costs[j] += cost
				}
				sum, ok := impl.SumPaths(v, p, directions)
				wantVolume(t, fmt.Sprint("SumPaths of ", directions), sum, ok, wanted)
			}
		}
	}
}

// turnings are ways of turning volumes, and what becomes of each direction.
func turnings() []struct {
	what       string
	turn       func(impl.Volume) (impl.Volume, bool)
	directions [8]int64
} {
	return []struct {
		what       string
		turn       func(impl.Volume) (impl.Volume, bool)
		directions [8]int64
	}{
		{"MirrorVolume", impl.MirrorVolume, [8]int64{1, 0, 2, 3, 6, 7, 4, 5}},
		{"FlipVolume", impl.FlipVolume, [8]int64{0, 1, 3, 2, 7, 6, 5, 4}},
		{"SwapVolume", impl.SwapVolume, [8]int64{2, 3, 0, 1, 4, 5, 7, 6}},
	}
}

// Paths are mirrored with their volumes, to the last bit.
func TestPathsAreMirrored(t *testing.T) {
	for i, size := range sizes() {
		kind := i % madeKinds
		v := madeVolume(kind, size[0], size[1], int64(1+i%8), i)
		over := made(kind, size[0], size[1], i+1)
		p := madePrices(kind, i+2)
		for _, c := range turnings() {
			u := changed(t, v, c.turn)
			turnedOver, _ := impl.StackOf([]impl.Picture{over})
			slice, _ := impl.SliceOf(changed(t, turnedOver, c.turn), 0)
			for direction, other := range c.directions {
				path, _ := impl.PathVolume(v, p, int64(direction))
				got, ok := impl.PathVolume(u, p, other)
				wantVolume(t, "PathVolume of "+c.what, got, ok, changed(t, path, c.turn))
				raw, _ := impl.RawPath(v, p, int64(direction))
				got, ok = impl.RawPath(u, p, other)
				wantVolume(t, "RawPath of "+c.what, got, ok, changed(t, raw, c.turn))
				path, _ = impl.PathOver(v, p, over, int64(direction))
				got, ok = impl.PathOver(u, p, slice, other)
				wantVolume(t, "PathOver of "+c.what, got, ok, changed(t, path, c.turn))
			}
		}
		both, _ := impl.BothWays(v, p)
		got, ok := impl.BothWays(changed(t, v, impl.MirrorVolume), p)
		wantVolume(t, "BothWays of MirrorVolume", got, ok, changed(t, both, impl.MirrorVolume))
	}
}

// Where nothing is rounded, the sum of all paths is turned with its volume.
func TestSumsOfPathsAreMirrored(t *testing.T) {
	for i, size := range sizes() {
		v := wholeVolume(size[0], size[1], int64(1+i%8), i)
		p := wholePrices()[i%7]
		sum, _ := impl.SumPaths(v, p, 8)
		for _, c := range turnings() {
			got, ok := impl.SumPaths(changed(t, v, c.turn), p, 8)
			wantVolume(t, "SumPaths of "+c.what, got, ok, changed(t, sum, c.turn))
		}
	}
}

// Costs and prices twice as great have paths twice as great.
func TestPathsOfTwiceTheCosts(t *testing.T) {
	for i, size := range sizes() {
		kind := []int{madeEven, madeFew}[i%2]
		v := madeVolume(kind, size[0], size[1], int64(1+i%8), i)
		p := madePrices(kind, i+1)
		over := made(kind, size[0], size[1], i+2)
		u, q := scaled(t, v, 2), impl.Prices{One: 2 * p.One, More: 2 * p.More}
		for direction := range int64(8) {
			path, _ := impl.PathVolume(v, p, direction)
			got, ok := impl.PathVolume(u, q, direction)
			wantVolume(t, "PathVolume of twice the costs", got, ok, scaled(t, path, 2))
			raw, _ := impl.RawPath(v, p, direction)
			got, ok = impl.RawPath(u, q, direction)
			wantVolume(t, "RawPath of twice the costs", got, ok, scaled(t, raw, 2))
			path, _ = impl.PathOver(v, p, over, direction)
			got, ok = impl.PathOver(u, q, over, direction)
			wantVolume(t, "PathOver of twice the costs", got, ok, scaled(t, path, 2))
		}
		sum, _ := impl.SumPaths(v, p, 8)
		got, ok := impl.SumPaths(u, q, 8)
		wantVolume(t, "SumPaths of twice the costs", got, ok, scaled(t, sum, 2))
		both, _ := impl.BothWays(v, p)
		got, ok = impl.BothWays(u, q)
		wantVolume(t, "BothWays of twice the costs", got, ok, scaled(t, both, 2))
		row, cost, _ := impl.SolveRow(v, p, 0)
		otherRow, otherCost, ok := impl.SolveRow(u, q, 0)
		wantList(t, "SolveRow of twice the costs", otherRow, ok, row...)
		wantBits(t, "cost of SolveRow of twice the costs", otherCost, bitsOf(2*cost))
	}
}

func TestPathsThatDoNotExist(t *testing.T) {
	v := countedVolume(3, 2, 2)
	over := counted(3, 2)
	p := impl.Prices{One: 1, More: 2}
	for _, direction := range []int64{-1, 8, 9, -8, math.MinInt64, math.MaxInt64, 1 << 32} {
		u, ok := impl.PathVolume(v, p, direction)
		wantNoVolume(t, fmt.Sprint("PathVolume along ", direction), u, ok)
		u, ok = impl.RawPath(v, p, direction)
		wantNoVolume(t, fmt.Sprint("RawPath along ", direction), u, ok)
		u, ok = impl.PathOver(v, p, over, direction)
		wantNoVolume(t, fmt.Sprint("PathOver along ", direction), u, ok)
	}
	for _, directions := range []int64{0, -1, 9, 10, -8, math.MinInt64, math.MaxInt64, 1 << 32} {
		u, ok := impl.SumPaths(v, p, directions)
		wantNoVolume(t, fmt.Sprint("SumPaths of ", directions), u, ok)
		u, ok = impl.SumOver(v, p, over, directions)
		wantNoVolume(t, fmt.Sprint("SumOver of ", directions), u, ok)
	}
}
