package tests

import (
	"math"
	"testing"

	"loop.example/g01223/impl"
)

// solvedRow is what SolveRow returns, and improvedMap what ImproveMap returns.
type solvedRow struct {
	row  []int64
	cost float32
}

type improvedMap struct {
	plan    impl.Map
	changes int64
}

func pricesAt(one, more uint32) impl.Prices {
	return impl.Prices{One: at(one), More: at(more)}
}

// invalidPrices returns prices that are not valid.
func invalidPrices() map[string]impl.Prices {
	return map[string]impl.Prices{
		"One is -1":                   pricesAt(bitsHole, bitsTwo),
		"One is barely less than 0":   pricesAt(0x80000001, bitsTwo),
		"both are -1":                 pricesAt(bitsHole, bitsHole),
		"More is -1":                  pricesAt(0, bitsHole),
		"More is barely less than 0":  pricesAt(0, 0x80000001),
		"More is less":                pricesAt(bitsTwo, bitsOne),
		"More is barely less":         pricesAt(0x3f800001, bitsOne),
		"One is a not-a-number":       pricesAt(nanBits, bitsOne),
		"More is a not-a-number":      pricesAt(bitsOne, nanBits),
		"both are not-a-numbers":      pricesAt(0xff800001, 0xff800001),
		"More is infinite":            pricesAt(bitsOne, bitsInf),
		"both are infinite":           pricesAt(bitsInf, bitsInf),
		"One is infinite":             pricesAt(bitsInf, bitsOne),
		"One is infinitely little":    pricesAt(bitsLess, bitsOne),
		"More is infinitely little":   pricesAt(bitsNull, bitsLess),
		"both are infinitely little":  pricesAt(bitsLess, bitsLess),
		"both are barely less than 0": pricesAt(0x80000001, 0x80000001),
	}
}

// price makes a price: the distance of a grey from 0, or 0 if it is not finite.
func (m *maker) price(kind int) float32 {
	x := float32(math.Abs(float64(m.grey(kind))))
	if !(x <= math.MaxFloat32) {
		return 0
	}
	return x
}

// prices makes valid prices, many of which are prices of nothing.
func (m *maker) prices(kind int) impl.Prices {
	a, b := m.price(kind), m.price(kind)
	p := impl.Prices{One: min(a, b), More: max(a, b)}
	switch m.next() % 8 {
	case 0:
		p.One = 0
	case 1:
		p.One, p.More = 0, 0
	case 2:
		p.One = p.More
	case 3:
		p.One = at(bitsNull)
	}
	return p
}

func madePrices(kind, seed int) impl.Prices {
	m := maker{seed: uint32(seed)}
	return m.prices(kind)
}

// payable returns the volume with costs for which rows are solved: distances
// from 0, and infinities in place of not-a-numbers.
func payable(v impl.Volume) impl.Volume {
	u := emptyVolume(v.Wide, v.High, v.Deep)
	for i, cost := range v.Costs {
		u.Costs[i] = float32(math.Abs(float64(cost)))
		if cost != cost {
			u.Costs[i] = at(bitsInf)
		}
	}
	return u
}

// madeWhole returns a map that is whole for a volume of this size.
func madeWhole(wide, high, deep int64, seed int) impl.Map {
	maker := maker{seed: uint32(seed)}
	m := impl.Map{Wide: wide, High: high, Values: make([]float32, wide*high)}
	for i := range m.Values {
		m.Values[i] = float32(maker.next() % uint32(deep))
		if m.Values[i] == 0 && maker.next()%2 == 0 {
			m.Values[i] = at(bitsNull)
		}
	}
	return m
}

// wholeVolume returns a volume whose costs are integers from -2 to 9, so that
// all sums of them and of prices that are integers are exact.
func wholeVolume(wide, high, deep int64, seed int) impl.Volume {
	m := maker{seed: uint32(seed)}
	v := emptyVolume(wide, high, deep)
	for i := range v.Costs {
		v.Costs[i] = float32(m.next()%12) - 2
	}
	return v
}

// wholePrices are valid prices that are integers.
func wholePrices() []impl.Prices {
	return []impl.Prices{{One: 0, More: 0}, {One: 0, More: 3}, {One: 1, More: 1}, {One: 1, More: 2}, {One: 2, More: 5}, {One: 3, More: 20}, {One: 30, More: 40}}
}

// steps are those of all directions.
var steps = [8][2]int64{{1, 0}, {-1, 0}, {0, 1}, {0, -1}, {1, 1}, {-1, -1}, {-1, 1}, {1, -1}}

// costAt tells a cost without the functions under test.
func costAt(v impl.Volume, x, y, d int64) float32 {
	return v.Costs[(x+v.Wide*y)*v.Deep+d]
}

// isCell reports whether x, y is a cell of a volume.
func isCell(v impl.Volume, x, y int64) bool {
	return x >= 0 && y >= 0 && x < v.Wide && y < v.High
}

// changed returns the result of a function of a volume that is known to succeed.
func changed(t *testing.T, v impl.Volume, f func(impl.Volume) (impl.Volume, bool)) impl.Volume {
	t.Helper()
	u, ok := f(v)
	want(t, "changing a volume succeeds", ok, true)
	return u
}

func scaled(t *testing.T, v impl.Volume, by float32) impl.Volume {
	t.Helper()
	return changed(t, v, func(v impl.Volume) (impl.Volume, bool) { return impl.ScaleVolume(v, by) })
}

// rowsOf calls use with all rows of disparities, one after another.
func rowsOf(wide, deep int64, use func(row []int64)) {
	row := make([]int64, wide)
	for {
		use(row)
		x := wide - 1
		for x >= 0 && row[x] == deep-1 {
			row[x] = 0
			x--
		}
		if x < 0 {
			return
		}
		row[x]++
	}
}

// jumpPrice tells a price without the functions under test.
func jumpPrice(p impl.Prices, a, b int64) float32 {
	if a == b {
		return 0
	}
	if a-b == 1 || b-a == 1 {
		return p.One
	}
	return p.More
}

// pricedCall is a function of a volume and prices, with its other arguments.
type pricedCall struct {
	name string
	call func(v impl.Volume, p impl.Prices) (any, bool)
}

// sizedLike returns a picture of the size of v, or of one cell if there is none.
func sizedLike(v impl.Volume) impl.Picture {
	p, ok := impl.FlatPicture(v.Wide, v.High, 3)
	if !ok {
		return pictureOf(1, 3)
	}
	for i := range p.Greys {
		p.Greys[i] = float32(i % 3)
	}
	return p
}

// zeroMap returns the map of zeros of the size of v, or of one cell.
func zeroMap(v impl.Volume) impl.Map {
	m, ok := impl.FlatMap(v.Wide, v.High, 0)
	if !ok {
		return mapOf(1, 0)
	}
	return m
}

func pricedCalls() []pricedCall {
	type volume = impl.Volume
	type prices = impl.Prices
	list := []pricedCall{
		{"SumPaths 1", func(v volume, p prices) (any, bool) { return impl.SumPaths(v, p, 1) }},
		{"SumPaths 8", func(v volume, p prices) (any, bool) { return impl.SumPaths(v, p, 8) }},
		{"SumOver 1", func(v volume, p prices) (any, bool) { return impl.SumOver(v, p, sizedLike(v), 1) }},
		{"SumOver 8", func(v volume, p prices) (any, bool) { return impl.SumOver(v, p, sizedLike(v), 8) }},
		{"BothWays", func(v volume, p prices) (any, bool) { return impl.BothWays(v, p) }},
		{"RowCost", func(v volume, p prices) (any, bool) {
			return impl.RowCost(v, p, 0, make([]int64, min(max(v.Wide, 1), 100)))
		}},
		{"SolveRow", func(v volume, p prices) (any, bool) {
			row, cost, ok := impl.SolveRow(v, p, 0)
			return solvedRow{row, cost}, ok
		}},
		{"SolveRows", func(v volume, p prices) (any, bool) { return impl.SolveRows(v, p) }},
		{"SolveColumns", func(v volume, p prices) (any, bool) { return impl.SolveColumns(v, p) }},
		{"MapCost", func(v volume, p prices) (any, bool) { return impl.MapCost(v, p, zeroMap(v)) }},
		{"LocalCost", func(v volume, p prices) (any, bool) { return impl.LocalCost(v, p, zeroMap(v), 0, 0, 0) }},
		{"ImproveMap 0", func(v volume, p prices) (any, bool) {
			m, changes, ok := impl.ImproveMap(v, p, zeroMap(v), 0)
			return improvedMap{m, changes}, ok
		}},
		{"ImproveMap 20", func(v volume, p prices) (any, bool) {
			m, changes, ok := impl.ImproveMap(v, p, zeroMap(v), 20)
			return improvedMap{m, changes}, ok
		}},
	}
	for direction := range int64(8) {
		list = append(list,
			pricedCall{"PathVolume", func(v volume, p prices) (any, bool) { return impl.PathVolume(v, p, direction) }},
			pricedCall{"RawPath", func(v volume, p prices) (any, bool) { return impl.RawPath(v, p, direction) }},
			pricedCall{"PathOver", func(v volume, p prices) (any, bool) { return impl.PathOver(v, p, sizedLike(v), direction) }})
	}
	return list
}

// placedCalls are functions of one volume without prices.
func placedCalls() []volumeCall {
	type volume = impl.Volume
	return []volumeCall{
		{"AddVolumes", func(v volume) (any, bool) { return impl.AddVolumes(v, v) }},
		{"ScaleVolume", func(v volume) (any, bool) { return impl.ScaleVolume(v, 3) }},
		{"MirrorVolume", func(v volume) (any, bool) { return impl.MirrorVolume(v) }},
		{"FlipVolume", func(v volume) (any, bool) { return impl.FlipVolume(v) }},
		{"SwapVolume", func(v volume) (any, bool) { return impl.SwapVolume(v) }},
		{"JumpsOf", func(v volume) (any, bool) { return impl.JumpsOf(v, zeroMap(v)) }},
	}
}

// wholeCalls are functions that require a map that is whole.
func wholeCalls() map[string]func(v impl.Volume, m impl.Map) (any, bool) {
	type volume = impl.Volume
	type plan = impl.Map
	p := impl.Prices{One: 1, More: 2}
	return map[string]func(v volume, m plan) (any, bool){
		"MapCost":   func(v volume, m plan) (any, bool) { return impl.MapCost(v, p, m) },
		"LocalCost": func(v volume, m plan) (any, bool) { return impl.LocalCost(v, p, m, 0, 0, 0) },
		"JumpsOf":   func(v volume, m plan) (any, bool) { return impl.JumpsOf(v, m) },
		"ImproveMap 0": func(v volume, m plan) (any, bool) {
			n, changes, ok := impl.ImproveMap(v, p, m, 0)
			return improvedMap{n, changes}, ok
		},
		"ImproveMap 20": func(v volume, m plan) (any, bool) {
			n, changes, ok := impl.ImproveMap(v, p, m, 20)
			return improvedMap{n, changes}, ok
		},
	}
}
