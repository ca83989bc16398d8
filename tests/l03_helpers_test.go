package tests

import (
	"fmt"
	"math"
	"slices"
	"testing"

	"loop.example/g01223/impl"
)

// volumeOf returns the volume of this width and depth with these costs.
func volumeOf(wide, deep int64, costs ...float32) impl.Volume {
	return impl.Volume{Wide: wide, High: int64(len(costs)) / deep / wide, Deep: deep, Costs: costs}
}

// volumeAt does the same with the bits of costs.
func volumeAt(wide, deep int64, bits ...uint32) impl.Volume {
	return volumeOf(wide, deep, listOf(bits...)...)
}

// mapOf returns the map of this width with these values.
func mapOf(wide int64, values ...float32) impl.Map {
	return impl.Map{Wide: wide, High: int64(len(values)) / wide, Values: values}
}

// mapAt does the same with the bits of values.
func mapAt(wide int64, bits ...uint32) impl.Map {
	return mapOf(wide, listOf(bits...)...)
}

// emptyVolume returns a volume of a size with costs +0.
func emptyVolume(wide, high, deep int64) impl.Volume {
	return impl.Volume{Wide: wide, High: high, Deep: deep, Costs: make([]float32, wide*high*deep)}
}

// countedVolume returns the volume of a size with the costs 1, 2, 3 and so on.
func countedVolume(wide, high, deep int64) impl.Volume {
	v := emptyVolume(wide, high, deep)
	for i := range v.Costs {
		v.Costs[i] = float32(i + 1)
	}
	return v
}

// asMap returns the map with the values of the greys of p.
func asMap(p impl.Picture) impl.Map {
	return impl.Map{Wide: p.Wide, High: p.High, Values: p.Greys}
}

// asPicture returns the picture with the greys of the values of m.
func asPicture(m impl.Map) impl.Picture {
	return impl.Picture{Wide: m.Wide, High: m.High, Greys: m.Values}
}

func countedMap(wide, high int64) impl.Map {
	return asMap(counted(wide, high))
}

func textOfVolume(v impl.Volume) string {
	return fmt.Sprintf("%d x %d x %d %08x", v.Wide, v.High, v.Deep, bitsOfList(v.Costs))
}

func textOfMap(m impl.Map) string {
	return fmt.Sprintf("%d x %d %08x", m.Wide, m.High, bitsOfList(m.Values))
}

// wantVolume checks a result of a function that succeeds.
func wantVolume(t *testing.T, what string, got impl.Volume, ok bool, wanted impl.Volume) {
	t.Helper()
	want(t, what+" succeeds", ok, true)
	// Texts of great volumes take long, and most of them are equal.
	if got.Wide != wanted.Wide || got.High != wanted.High || got.Deep != wanted.Deep || !slices.Equal(bitsOfList(got.Costs), bitsOfList(wanted.Costs)) {
		t.Errorf("%s: got %s, want %s", what, textOfVolume(got), textOfVolume(wanted))
	}
}

// wantNoVolume checks a result of a function that fails.
func wantNoVolume(t *testing.T, what string, got impl.Volume, ok bool) {
	t.Helper()
	want(t, what+" succeeds", ok, false)
	want(t, what, textOfVolume(got), textOfVolume(impl.Volume{}))
}

// wantMap checks a result of a function that succeeds.
func wantMap(t *testing.T, what string, got impl.Map, ok bool, wanted impl.Map) {
	t.Helper()
	want(t, what+" succeeds", ok, true)
	want(t, what, textOfMap(got), textOfMap(wanted))
}

// wantNoMap checks a result of a function that fails.
func wantNoMap(t *testing.T, what string, got impl.Map, ok bool) {
	t.Helper()
	want(t, what+" succeeds", ok, false)
	want(t, what, textOfMap(got), textOfMap(impl.Map{}))
}

// value makes a value: a special number, or one that is an integer or a half,
// which is a disparity more often than not.
func (m *maker) value() float32 {
	n := m.next()
	switch n % 5 {
	case 0:
		return at(specialBits[n/5%uint32(len(specialBits))])
	case 1, 2:
		return float32(n/5%19)/2 - 1
	}
	return float32(n/5%60)/2 - 1.5
}

func madeVolume(kind int, wide, high, deep int64, seed int) impl.Volume {
	m := maker{seed: uint32(seed)}
	v := emptyVolume(wide, high, deep)
	for i := range v.Costs {
		v.Costs[i] = m.grey(kind)
	}
	return v
}

func madeMap(wide, high int64, seed int) impl.Map {
	maker := maker{seed: uint32(seed)}
	m := impl.Map{Wide: wide, High: high, Values: make([]float32, wide*high)}
	for i := range m.Values {
		m.Values[i] = maker.value()
	}
	return m
}

// volumesOfGreatest returns volumes of the greatest sizes, and of one cost.
func volumesOfGreatest(kind int) []impl.Volume {
	var list []impl.Volume
	for i, size := range [][3]int64{{1, 1, 1}, {1, 1, 8}, {16, 16, 8}, {24, 10, 8}, {10, 24, 1}, {24, 1, 7}, {1, 24, 8}, {5, 3, 3}, {2, 2, 8}} {
		list = append(list, madeVolume(kind, size[0], size[1], size[2], 11*i+kind))
	}
	return list
}

// noDepths are numbers that no volume has as its Deep.
var noDepths = []int64{0, -1, 9, 10, 16, -8, math.MinInt64, math.MaxInt64, 1 << 32, 1<<62 + 1, 1 << 61}

// invalidVolumes returns volumes that are not valid.
func invalidVolumes() map[string]impl.Volume {
	list := map[string]impl.Volume{
		"zero":                  {},
		"no depth":              {Wide: 1, High: 1},
		"no costs":              {Wide: 1, High: 1, Deep: 1},
		"one cost too many":     {Wide: 1, High: 1, Deep: 1, Costs: make([]float32, 2)},
		"one cost too few":      {Wide: 3, High: 2, Deep: 2, Costs: make([]float32, 11)},
		"a cell too many":       {Wide: 3, High: 2, Deep: 2, Costs: make([]float32, 14)},
		"costs of one slice":    {Wide: 3, High: 2, Deep: 2, Costs: make([]float32, 6)},
		"sides that wrap to 16": {Wide: 1<<62 + 1, High: 16, Deep: 1, Costs: make([]float32, 16)},
		"depth that wraps to 0": {Wide: 8, High: 8, Deep: 1 << 58},
		"all that wraps to 8":   {Wide: 2, High: 4, Deep: 1<<61 + 1, Costs: make([]float32, 8)},
		"sides less than 0":     {Wide: -2, High: -2, Deep: 1, Costs: make([]float32, 4)},
		"a side and a depth":    {Wide: -2, High: 2, Deep: -1, Costs: make([]float32, 4)},
	}
	for name, p := range invalidPictures() {
		list["picture, "+name] = impl.Volume{Wide: p.Wide, High: p.High, Deep: 1, Costs: p.Greys}
	}
	for _, deep := range noDepths {
		v := impl.Volume{Wide: 2, High: 1, Deep: deep}
		if deep > 0 && deep < 1000 {
			v.Costs = make([]float32, 2*deep)
		}
		list[fmt.Sprint("depth ", deep)] = v
	}
	list["too many cells"] = emptyVolume(16, 17, 7)
	list["too wide"] = emptyVolume(25, 2, 8)
	list["too high"] = emptyVolume(2, 25, 8)
	list["too deep"] = emptyVolume(16, 14, 9)
	return list
}

// volumeCall is a function of one volume, with its other arguments.
type volumeCall struct {
	name string
	call func(v impl.Volume) (any, bool)
}

func volumeCalls() []volumeCall {
	type volume = impl.Volume
	return []volumeCall{
		{"CostAt", func(v volume) (any, bool) { return impl.CostAt(v, 0, 0, 0) }},
		{"SliceOf", func(v volume) (any, bool) { return impl.SliceOf(v, 0) }},
		{"MixVolumes", func(v volume) (any, bool) { return impl.MixVolumes(v, v, 0.25) }},
		{"CapVolume", func(v volume) (any, bool) { return impl.CapVolume(v, 1) }},
		{"BoxVolume 0", func(v volume) (any, bool) { return impl.BoxVolume(v, 0) }},
		{"BoxVolume 3", func(v volume) (any, bool) { return impl.BoxVolume(v, 3) }},
		{"OtherVolume", func(v volume) (any, bool) { return impl.OtherVolume(v) }},
		{"ShallowVolume of one", func(v volume) (any, bool) { return impl.ShallowVolume(v, 1) }},
		{"ShallowVolume of all", func(v volume) (any, bool) { return impl.ShallowVolume(v, v.Deep) }},
		{"WinnersOf", func(v volume) (any, bool) { return impl.WinnersOf(v) }},
		{"LeastCosts", func(v volume) (any, bool) { return impl.LeastCosts(v) }},
		{"MarginsOf", func(v volume) (any, bool) { return impl.MarginsOf(v) }},
		{"CostOfMap", func(v volume) (any, bool) {
			m, _ := impl.FlatMap(v.Wide, v.High, 0)
			return impl.CostOfMap(v, m)
		}},
	}
}

// mapCall is a function of one map, with its other arguments.
type mapCall struct {
	name string
	call func(m impl.Map) (any, bool)
}

func mapCalls() []mapCall {
	type plan = impl.Map
	// like returns a picture of the size of m, or of one cell if there is none.
	like := func(m plan) impl.Picture {
		p, ok := impl.FlatPicture(m.Wide, m.High, 3)
		if !ok {
			return pictureOf(1, 3)
		}
		return p
	}
	return []mapCall{
		{"ValueAt", func(m plan) (any, bool) { return impl.ValueAt(m, 0, 0) }},
		{"CostOfMap", func(m plan) (any, bool) {
			v, _ := impl.SquareVolume(like(m), like(m), 8)
			return impl.CostOfMap(v, m)
		}},
		{"WarpPicture", func(m plan) (any, bool) { return impl.WarpPicture(like(m), m) }},
		{"WarpPicture of another size", func(m plan) (any, bool) { return impl.WarpPicture(counted(5, 3), m) }},
		{"WrongShare", func(m plan) (any, bool) { return impl.WrongShare(m, m, 1) }},
		{"WrongShare of what is true", func(m plan) (any, bool) { return impl.WrongShare(asMap(like(m)), m, 1) }},
		{"WrongShare of what may be wrong", func(m plan) (any, bool) { return impl.WrongShare(m, asMap(like(m)), 1) }},
	}
}

// invalidMaps returns maps that are not valid.
func invalidMaps() map[string]impl.Map {
	list := map[string]impl.Map{}
	for name, p := range invalidPictures() {
		list[name] = asMap(p)
	}
	return list
}
