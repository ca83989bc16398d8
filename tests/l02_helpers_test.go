package tests

import (
	"fmt"
	"math"
	"slices"
	"testing"

	"loop.example/g01223/impl"
)

// pictureOf returns the picture of this width with these greys.
func pictureOf(wide int64, greys ...float32) impl.Picture {
	return impl.Picture{Wide: wide, High: int64(len(greys)) / wide, Greys: greys}
}

// pictureAt does the same with the bits of greys.
func pictureAt(wide int64, bits ...uint32) impl.Picture {
	return pictureOf(wide, listOf(bits...)...)
}

// counted returns the picture of a size with the greys 1, 2, 3 and so on.
func counted(wide, high int64) impl.Picture {
	p := impl.Picture{Wide: wide, High: high, Greys: make([]float32, wide*high)}
	for i := range p.Greys {
		p.Greys[i] = float32(i + 1)
	}
	return p
}

// cellOf tells the grey about x, y with steps towards the picture.
func cellOf(p impl.Picture, x, y int64) float32 {
	for ; x < 0; x++ {
	}
	for ; x >= p.Wide; x-- {
	}
	for ; y < 0; y++ {
	}
	for ; y >= p.High; y-- {
	}
	return p.Greys[y*p.Wide+x]
}

func textOfPicture(p impl.Picture) string {
	return fmt.Sprintf("%d x %d %08x", p.Wide, p.High, bitsOfList(p.Greys))
}

func wantSamePicture(t *testing.T, what string, got, wanted impl.Picture) {
	t.Helper()
	want(t, what, textOfPicture(got), textOfPicture(wanted))
}

// wantPicture checks a result of a function that succeeds.
func wantPicture(t *testing.T, what string, got impl.Picture, ok bool, wanted impl.Picture) {
	t.Helper()
	want(t, what+" succeeds", ok, true)
	wantSamePicture(t, what, got, wanted)
}

// wantNoPicture checks a result of a function that fails.
func wantNoPicture(t *testing.T, what string, got impl.Picture, ok bool) {
	t.Helper()
	want(t, what+" succeeds", ok, false)
	wantSamePicture(t, what, got, impl.Picture{})
}

// turned returns the result of a function that is known to succeed.
func turned(t *testing.T, p impl.Picture, f func(impl.Picture) (impl.Picture, bool)) impl.Picture {
	t.Helper()
	q, ok := f(p)
	want(t, "turning succeeds", ok, true)
	return q
}

// sizes returns all sizes that pictures have.
func sizes() [][2]int64 {
	var list [][2]int64
	for wide := int64(1); wide <= 24; wide++ {
		for high := int64(1); high <= 24 && wide*high <= 256; high++ {
			list = append(list, [2]int64{wide, high})
		}
	}
	return list
}

const (
	madeEven      = iota // greys from 0 to 1
	madeAny              // any bits
	madeSpecial          // some of specialBits
	madeFew              // 0 to 4, so that many are equal
	madeSubnormal        // subnormal numbers and zeros
	madeKinds
)

// maker makes greys, always the same ones for the same seed.
type maker struct {
	seed uint32
}

func (m *maker) next() uint32 {
	m.seed = m.seed*1664525 + 1013904223
	return m.seed >> 8
}

func (m *maker) grey(kind int) float32 {
	n := m.next()
	switch kind {
	case madeEven:
		return float32(n) / (1 << 24)
	case madeAny:
		return at(n<<8 | m.next()>>16)
	case madeSpecial:
		return at(specialBits[n%uint32(len(specialBits))])
	case madeFew:
		return float32(n % 5)
	}
	return at(n>>1 | m.next()%2<<31)
}

func made(kind int, wide, high int64, seed int) impl.Picture {
	m := maker{seed: uint32(seed)}
	p := impl.Picture{Wide: wide, High: high, Greys: make([]float32, wide*high)}
	for i := range p.Greys {
		p.Greys[i] = m.grey(kind)
	}
	return p
}

// ofGreatest returns pictures of the greatest sizes, and of one cell.
func ofGreatest(kind int) []impl.Picture {
	var list []impl.Picture
	for i, size := range [][2]int64{{1, 1}, {24, 1}, {1, 24}, {24, 10}, {10, 24}, {16, 16}, {23, 11}, {2, 2}, {5, 3}} {
		list = append(list, made(kind, size[0], size[1], 7*i+kind))
	}
	return list
}

// invalidPictures returns pictures that are not valid.
func invalidPictures() map[string]impl.Picture {
	list := map[string]impl.Picture{
		"zero":                  {},
		"no greys":              {Wide: 1, High: 1},
		"one grey too many":     {Wide: 1, High: 1, Greys: make([]float32, 2)},
		"one grey too few":      {Wide: 3, High: 2, Greys: make([]float32, 5)},
		"a row too many":        {Wide: 3, High: 2, Greys: make([]float32, 9)},
		"no width":              {Wide: 0, High: 3},
		"no height":             {Wide: 3, High: 0},
		"width less than 0":     {Wide: -1, High: 1, Greys: make([]float32, 1)},
		"height less than 0":    {Wide: 1, High: -1, Greys: make([]float32, 1)},
		"sides less than 0":     {Wide: -2, High: -2, Greys: make([]float32, 4)},
		"least sides":           {Wide: math.MinInt64, High: math.MinInt64},
		"greatest sides":        {Wide: math.MaxInt64, High: math.MaxInt64, Greys: make([]float32, 1)},
		"sides that wrap to 0":  {Wide: 1 << 32, High: 1 << 32},
		"sides that wrap to 16": {Wide: 1<<62 + 1, High: 16, Greys: make([]float32, 16)},
	}
	for _, size := range [][2]int64{{25, 1}, {1, 25}, {24, 11}, {11, 24}, {16, 17}, {17, 16}, {24, 24}, {256, 1}, {25, 0}} {
		list[fmt.Sprint(size)] = impl.Picture{Wide: size[0], High: size[1], Greys: make([]float32, size[0]*size[1])}
	}
	return list
}

// pictureCall is a function of one picture, with its other arguments.
type pictureCall struct {
	name string
	call func(p impl.Picture) (any, bool)
}

// textOfResult tells all results of a call.
func textOfResult(result any, ok bool) string {
	switch r := result.(type) {
	case impl.Picture:
		return fmt.Sprint(textOfPicture(r), ok)
	case []impl.Picture:
		text := ""
		for _, p := range r {
			text += textOfPicture(p) + "; "
		}
		return fmt.Sprint(text, ok)
	case impl.Volume:
		return fmt.Sprint(textOfVolume(r), ok)
	case impl.Map:
		return fmt.Sprint(textOfMap(r), ok)
	case []float32:
		return fmt.Sprint(bitsOfList(r), ok)
	case float32:
		return fmt.Sprint(bitsOf(r), ok)
	case solvedRow:
		return fmt.Sprint(r.row, bitsOf(r.cost), ok)
	case improvedMap:
		return fmt.Sprint(textOfMap(r.plan), r.changes, ok)
	case filledMap:
		return fmt.Sprint(textOfMap(r.plan), r.rounds, ok)
	case patchList:
		return fmt.Sprint(r.patches, r.sizes, ok)
	}
	return fmt.Sprint(textOfScene(result), ok)
}

func pictureCalls() []pictureCall {
	type picture = impl.Picture
	return []pictureCall{
		{"GreyAt", func(p picture) (any, bool) { return impl.GreyAt(p, 0, 0) }},
		{"PutGrey", func(p picture) (any, bool) { return impl.PutGrey(p, 0, 0, 7) }},
		{"MirrorPicture", func(p picture) (any, bool) { return impl.MirrorPicture(p) }},
		{"FlipPicture", func(p picture) (any, bool) { return impl.FlipPicture(p) }},
		{"SwapPicture", func(p picture) (any, bool) { return impl.SwapPicture(p) }},
		{"ShiftPicture by 0", func(p picture) (any, bool) { return impl.ShiftPicture(p, 0) }},
		{"ShiftPicture by 2", func(p picture) (any, bool) { return impl.ShiftPicture(p, 2) }},
		{"CropPicture of one cell", func(p picture) (any, bool) { return impl.CropPicture(p, 0, 0, 1, 1) }},
		{"CropPicture of all", func(p picture) (any, bool) { return impl.CropPicture(p, 0, 0, p.Wide, p.High) }},
		{"ScalePicture", func(p picture) (any, bool) { return impl.ScalePicture(p, 3, 0.5) }},
		{"LessPictures", func(p picture) (any, bool) { return impl.LessPictures(p, p) }},
		{"BoxPicture 0", func(p picture) (any, bool) { return impl.BoxPicture(p, 0) }},
		{"BoxPicture 3", func(p picture) (any, bool) { return impl.BoxPicture(p, 3) }},
		{"BlurPicture 0", func(p picture) (any, bool) { return impl.BlurPicture(p, 0) }},
		{"BlurPicture 8", func(p picture) (any, bool) { return impl.BlurPicture(p, 8) }},
		{"HalvePicture", func(p picture) (any, bool) { return impl.HalvePicture(p) }},
		{"DoublePicture", func(p picture) (any, bool) { return impl.DoublePicture(p, 20, 12) }},
		{"PyramidOf 1", func(p picture) (any, bool) { return impl.PyramidOf(p, 1) }},
		{"PyramidOf 5", func(p picture) (any, bool) { return impl.PyramidOf(p, 5) }},
		{"SlopePicture", func(p picture) (any, bool) { return impl.SlopePicture(p) }},
		{"RankAt", func(p picture) (any, bool) { return impl.RankAt(p, 0, 0, 2) }},
		{"RanksOf", func(p picture) (any, bool) { return impl.RanksOf(p, 1) }},
		{"RangeOf", func(p picture) (any, bool) {
			least, greatest, ok := impl.RangeOf(p)
			return []float32{least, greatest}, ok
		}},
		{"NormPicture", func(p picture) (any, bool) { return impl.NormPicture(p) }},
		{"CountUnlike", func(p picture) (any, bool) { return impl.CountUnlike(p, p, 1) }},
	}
}

// wantList checks a list that a function returns.
func wantList(t *testing.T, what string, got []int64, ok bool, wanted ...int64) {
	t.Helper()
	want(t, what+" succeeds", ok, true)
	if !slices.Equal(got, wanted) {
		t.Errorf("%s: got %v, want %v", what, got, wanted)
	}
}
