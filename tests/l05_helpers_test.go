package tests

import (
	"math"

	"loop.example/g01223/impl"
)

// filledMap is what FillAll returns, and patchList what PatchesOf returns.
type filledMap struct {
	plan   impl.Map
	rounds int64
}

type patchList struct {
	patches, sizes []int64
}

const (
	patchyFew    = iota // 0 to 3, and a hole in four
	patchySparse        // a value in eight, and holes
	patchyEven          // many digits, and a hole in six
	patchyValues        // see value
	patchySpecial
	patchyAny // any bits
	patchyKinds
)

// holeBits are those of values that are holes.
var holeBits = []uint32{bitsHole, 0xbe800000, nanBits, bitsLess}

// otherHoleBits are those of more of them.
var otherHoleBits = []uint32{
	0x80000001, 0x807fffff, 0x80800000, 0xbf000000, 0xbf000001, 0xbeffffff, 0xbf800001, 0xbf7fffff, 0xc0000000,
	0xff7fffff, 0xffc00000, 0x7f800001, 0xff800001, 0x7fffffff, 0xffffffff, 0x7fa55555,
}

// allHoleBits returns the bits of both.
func allHoleBits() []uint32 {
	return append(append([]uint32{}, holeBits...), otherHoleBits...)
}

// valueBits are those of values that are no holes, in ascending order but for
// both zeros.
var valueBits = []uint32{bitsNull, 0, 1, 0x007fffff, 0x00800000, 0x3e800000, 0x3f7fffff, bitsOne, bitsTwo, 0x41c80000, bitsWhole, bitsMost, bitsInf}

// isHole reports whether a value is that of a hole, without the functions under
// test.
func isHole(value float32) bool {
	return value != value || value < 0
}

// patchy makes a value of a map with holes.
func (m *maker) patchy(kind int) float32 {
	switch kind {
	case patchyValues:
		return m.value()
	case patchySpecial:
		return m.grey(madeSpecial)
	case patchyAny:
		return m.grey(madeAny)
	}
	n := m.next()
	switch {
	case kind == patchyFew && n%4 == 0:
		return at(holeBits[n/4%4])
	case kind == patchyFew:
		return float32(n / 4 % 4)
	case kind == patchySparse && n%8 != 0:
		return at(holeBits[n/8%4])
	case kind == patchySparse:
		return float32(n/8) / (1 << 18)
	case n%6 == 0:
		return -1
	}
	return float32(n) / (1 << 20)
}

func patchyMap(kind int, wide, high int64, seed int) impl.Map {
	maker := maker{seed: uint32(seed)}
	m := impl.Map{Wide: wide, High: high, Values: make([]float32, wide*high)}
	for i := range m.Values {
		m.Values[i] = maker.patchy(kind)
	}
	return m
}

// nearNumber makes a number as which differences are at most.
func nearNumber(seed int) float32 {
	m := maker{seed: uint32(seed)}
	n := m.next()
	switch n % 8 {
	case 0:
		return 0
	case 1:
		return 0.5
	case 2:
		return 1
	case 3:
		return at(bitsInf)
	case 4:
		return at(specialBits[n/8%uint32(len(specialBits))])
	}
	return float32(n/16) / (1 << 18)
}

// limitsOf makes limits, none of them for some seeds.
func limitsOf(seed int) []float32 {
	m := maker{seed: uint32(seed + 9)}
	limit := float32(-1.5)
	var limits []float32
	for range seed / 10 % 10 {
		limit += float32(m.next()%8+1) / 4
		limits = append(limits, limit)
	}
	return limits
}

// likeMap returns a picture of the size of m, or of one cell if there is none.
func likeMap(m impl.Map) impl.Picture {
	return sizedLike(impl.Volume{Wide: m.Wide, High: m.High})
}

// noReaches are numbers that are no reaches, and noPlaces no cells of a map of
// 3 times 2 cells.
var noReaches = []int64{-1, 4, 5, 24, math.MinInt64, math.MaxInt64, 1 << 32}

var noPlaces = [][2]int64{{-1, 0}, {3, 0}, {0, -1}, {0, 2}, {3, 2}, {2, 3}, {math.MinInt64, 0}, {0, math.MaxInt64}, {1 << 62, 1 << 62}, {-3, 1}}

// valuedCalls are functions of one map.
func valuedCalls() []mapCall {
	type plan = impl.Map
	return append(mendingCalls(), []mapCall{
		{"HolesOf", func(m plan) (any, bool) { return impl.HolesOf(m) }},
		{"RangeOfMap", func(m plan) (any, bool) {
			least, greatest, ok := impl.RangeOfMap(m)
			return []float32{least, greatest}, ok
		}},
		{"MeanOfMap", func(m plan) (any, bool) { return impl.MeanOfMap(m) }},
		{"CountValues", func(m plan) (any, bool) { return impl.CountValues(m, []float32{0, 0.5, 2}) }},
		{"CountValues without limits", func(m plan) (any, bool) { return impl.CountValues(m, nil) }},
		{"RoundMap", func(m plan) (any, bool) { return impl.RoundMap(m) }},
		{"LessMaps", func(m plan) (any, bool) { return impl.LessMaps(m, m) }},
		{"LessMaps of another one", func(m plan) (any, bool) { return impl.LessMaps(asMap(likeMap(m)), m) }},
		{"KeepMap", func(m plan) (any, bool) { return impl.KeepMap(m, asMap(likeMap(m)), 1) }},
		{"KeepMap of shares", func(m plan) (any, bool) { return impl.KeepMap(asMap(likeMap(m)), m, 1) }},
		{"MirrorMap", func(m plan) (any, bool) { return impl.MirrorMap(m) }},
		{"CheckMaps of the left", func(m plan) (any, bool) { return impl.CheckMaps(m, asMap(likeMap(m)), 1) }},
		{"CheckMaps of the right", func(m plan) (any, bool) { return impl.CheckMaps(asMap(likeMap(m)), m, 1) }},
		{"UnseenOf", func(m plan) (any, bool) { return impl.UnseenOf(m) }},
		{"PatchesOf", func(m plan) (any, bool) {
			patches, sizes, ok := impl.PatchesOf(m, 1)
			return patchList{patches, sizes}, ok
		}},
		{"DropPatches", func(m plan) (any, bool) { return impl.DropPatches(m, 1, 3) }},
		{"DropPatches of none", func(m plan) (any, bool) { return impl.DropPatches(m, 1, 0) }},
		{"BordersOf", func(m plan) (any, bool) { return impl.BordersOf(m, 1) }},
		{"HalveMap", func(m plan) (any, bool) { return impl.HalveMap(m) }},
		{"DoubleMap", func(m plan) (any, bool) { return impl.DoubleMap(m, 20, 12) }},
		{"DoubleMap of one cell", func(m plan) (any, bool) { return impl.DoubleMap(m, 1, 1) }},
		{"WinnersNear", func(m plan) (any, bool) {
			v, _ := impl.SquareVolume(likeMap(m), likeMap(m), 8)
			return impl.WinnersNear(v, m, 1)
		}},
	}...)
}

// mendingCalls are those of the functions that fill and clean maps.
func mendingCalls() []mapCall {
	type plan = impl.Map
	list := []mapCall{
		{"FillRows", func(m plan) (any, bool) { return impl.FillRows(m) }},
		{"FillAll", func(m plan) (any, bool) {
			filled, rounds, ok := impl.FillAll(m)
			return filledMap{filled, rounds}, ok
		}},
	}
	for reach := range int64(4) {
		list = append(list,
			mapCall{"MedianAt", func(m plan) (any, bool) { return impl.MedianAt(m, 0, 0, reach) }},
			mapCall{"MedianMap", func(m plan) (any, bool) { return impl.MedianMap(m, reach) }},
			mapCall{"GuidedMap", func(m plan) (any, bool) { return impl.GuidedMap(m, likeMap(m), reach, 1) }})
	}
	return list
}

// sharpCalls are functions of one volume.
func sharpCalls() []volumeCall {
	type volume = impl.Volume
	return []volumeCall{
		{"ChecksOf", func(v volume) (any, bool) { return impl.ChecksOf(v, 1) }},
		{"SharpAt", func(v volume) (any, bool) { return impl.SharpAt(v, 0, 0) }},
		{"SharpMap", func(v volume) (any, bool) { return impl.SharpMap(v) }},
		{"TrustOf", func(v volume) (any, bool) { return impl.TrustOf(v) }},
		{"WinnersNear 0", func(v volume) (any, bool) { return impl.WinnersNear(v, zeroMap(v), 0) }},
		{"WinnersNear 8", func(v volume) (any, bool) { return impl.WinnersNear(v, zeroMap(v), 8) }},
	}
}
