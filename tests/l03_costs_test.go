package tests

import (
	"math"
	"testing"

	"loop.example/g01223/impl"
)

func TestValidVolume(t *testing.T) {
	for _, size := range sizes() {
		for deep := int64(1); deep <= 8; deep++ {
			v := emptyVolume(size[0], size[1], deep)
			want(t, "ValidVolume", impl.ValidVolume(v), true)
			v.Costs = v.Costs[:len(v.Costs)-1]
			want(t, "ValidVolume with a cost too few", impl.ValidVolume(v), false)
			v.Costs = make([]float32, size[0]*size[1]*deep+1)
			want(t, "ValidVolume with a cost too many", impl.ValidVolume(v), false)
		}
	}
	want(t, "how many costs there can be", len(emptyVolume(16, 16, 8).Costs), impl.MaxCosts)
	want(t, "ValidVolume of special costs", impl.ValidVolume(volumeAt(5, 8, specialBits[:40]...)), true)
	for name, v := range invalidVolumes() {
		want(t, "ValidVolume: "+name, impl.ValidVolume(v), false)
	}
}

func TestSameVolume(t *testing.T) {
	v := countedVolume(3, 2, 2)
	for _, c := range []struct {
		what string
		a, b impl.Volume
		same bool
	}{
		{"a volume and itself", v, countedVolume(3, 2, 2), true},
		{"other sides", v, countedVolume(2, 3, 2), false},
		{"other widths and depths", v, countedVolume(2, 2, 3), false},
		{"other heights and depths", v, countedVolume(3, 1, 4), false},
		{"other widths", impl.Volume{Wide: 1}, impl.Volume{}, false},
		{"other heights", impl.Volume{High: 1}, impl.Volume{}, false},
		{"other depths", impl.Volume{Deep: 1}, impl.Volume{}, false},
		{"another cost", volumeOf(1, 3, 1, 2, 3), volumeOf(1, 3, 1, 2, 4), false},
		{"zeros of both signs", volumeAt(1, 2, 0, 0), volumeAt(1, 2, 0, bitsNull), false},
		{"zeros of both signs in eight costs", volumeAt(1, 8, 0, 0, 0, 0, 0, 0, 0, 0), volumeAt(1, 8, 0, 0, 0, 0, 0, 0, 0, bitsNull), false},
		{"zeros of a sign", volumeAt(1, 1, bitsNull), volumeAt(1, 1, bitsNull), true},
		{"not-a-numbers", volumeAt(1, 2, nanBits, 0xff800001), volumeAt(1, 2, 0x7fffffff, nanBits), true},
		{"a not-a-number and infinity", volumeAt(1, 1, 0x7f800001), volumeAt(1, 1, bitsInf), false},
		{"infinities", volumeAt(2, 1, bitsInf, bitsLess), volumeAt(2, 1, bitsInf, bitsLess), true},
		{"infinities of both signs", volumeAt(1, 1, bitsInf), volumeAt(1, 1, bitsLess), false},
		{"nil and empty", impl.Volume{Deep: 5}, impl.Volume{Deep: 5, Costs: []float32{}}, true},
		{"a cost more", impl.Volume{Costs: make([]float32, 1)}, impl.Volume{}, false},
		{"a cell more", impl.Volume{Wide: 1, High: 1, Deep: 8, Costs: make([]float32, 8)}, impl.Volume{Wide: 1, High: 1, Deep: 8, Costs: make([]float32, 16)}, false},
		{"a row of 24 more", impl.Volume{Deep: 8, Costs: make([]float32, 24)}, impl.Volume{Deep: 8, Costs: make([]float32, 48)}, false},
	} {
		want(t, "SameVolume of "+c.what, impl.SameVolume(c.a, c.b), c.same)
		want(t, "SameVolume of "+c.what+", exchanged", impl.SameVolume(c.b, c.a), c.same)
	}
}

// Volumes need not be valid to be the same.
func TestSameVolumeWhereNotValid(t *testing.T) {
	for name, v := range invalidVolumes() {
		u := v
		u.Costs = append([]float32{}, v.Costs...)
		want(t, "SameVolume: "+name, impl.SameVolume(u, v), true)
		if last := len(u.Costs) - 1; last >= 0 {
			u.Costs[last] = 3
			want(t, "SameVolume with another cost: "+name, impl.SameVolume(u, v), false)
		}
		for i, w := range []impl.Volume{v, v, v} {
			*[]*int64{&w.Wide, &w.High, &w.Deep}[i] ^= 1
			want(t, "SameVolume with another size: "+name, impl.SameVolume(w, v), false)
		}
	}
}

func TestSameVolumeTellsEachCost(t *testing.T) {
	for _, size := range [][3]int64{{1, 1, 1}, {1, 1, 8}, {16, 16, 8}, {24, 10, 7}, {5, 3, 2}} {
		v := countedVolume(size[0], size[1], size[2])
		u := countedVolume(size[0], size[1], size[2])
		for i := range u.Costs {
			u.Costs[i] += 0.5
			if impl.SameVolume(u, v) || impl.SameVolume(v, u) {
				t.Errorf("size %v: the cost %d is another one, but the volumes are the same", size, i)
			}
			u.Costs[i] -= 0.5
		}
		want(t, "SameVolume", impl.SameVolume(u, v), true)
	}
}

func TestCostAt(t *testing.T) {
	for _, size := range [][3]int64{{1, 1, 1}, {3, 2, 4}, {24, 10, 8}, {1, 24, 3}, {16, 16, 8}} {
		v := countedVolume(size[0], size[1], size[2])
		for y := range v.High {
			for x := range v.Wide {
				for d := range v.Deep {
					cost, ok := impl.CostAt(v, x, y, d)
					wantNumber(t, "CostAt", cost, ok, math.Float32bits(float32(1+(x+v.Wide*y)*v.Deep+d)))
				}
			}
		}
		for _, cell := range besideOf(counted(v.Wide, v.High)) {
			cost, ok := impl.CostAt(v, cell[0], cell[1], 0)
			wantNoNumber(t, "CostAt beside the volume", cost, ok)
		}
		for _, d := range append(beside, v.Deep, v.Deep+1) {
			cost, ok := impl.CostAt(v, 0, 0, d)
			wantNoNumber(t, "CostAt of no disparity", cost, ok)
		}
	}
	v := volumeAt(2, 2, bitsNull, nanBits, bitsInf, 1)
	for i, bits := range []uint32{bitsNull, nanBits, bitsInf, 1} {
		cost, ok := impl.CostAt(v, int64(i/2), 0, int64(i%2))
		wantNumber(t, "CostAt of special costs", cost, ok, bits)
	}
}

// The pictures of the examples.
func exampleLeft() impl.Picture  { return pictureOf(2, 1, 2) }
func exampleRight() impl.Picture { return pictureOf(2, 2, 4) }

func exampleVolume() impl.Volume { return volumeOf(2, 2, 1, 1, 4, 0) }

func TestCostsOfExample(t *testing.T) {
	v, ok := impl.SquareVolume(exampleLeft(), exampleRight(), 2)
	wantVolume(t, "SquareVolume", v, ok, exampleVolume())
	m, ok := impl.WinnersOf(v)
	wantMap(t, "WinnersOf", m, ok, mapOf(2, 0, 1))
	m, ok = impl.MarginsOf(v)
	wantMap(t, "MarginsOf", m, ok, mapOf(2, 0, 4))
	m, ok = impl.LeastCosts(v)
	wantMap(t, "LeastCosts", m, ok, mapOf(2, 1, 0))
}

func TestSquareAndSizeVolume(t *testing.T) {
	left := pictureOf(3, 1, 5, -2, 0, 7, 3)
	right := pictureOf(3, 2, 4, 8, -1, 7, 0.5)
	v, ok := impl.SizeVolume(left, right, 3)
	wantVolume(t, "SizeVolume", v, ok, volumeOf(3, 3,
		1, 1, 1, 1, 3, 3, 10, 6, 4,
		1, 1, 1, 0, 8, 8, 2.5, 4, 4))
	v, ok = impl.SquareVolume(left, right, 3)
	wantVolume(t, "SquareVolume", v, ok, volumeOf(3, 3,
		1, 1, 1, 1, 9, 9, 100, 36, 16,
		1, 1, 1, 0, 64, 64, 6.25, 16, 16))
	// Exchanged, other cells stand against one another.
	v, ok = impl.SizeVolume(right, left, 2)
	wantVolume(t, "SizeVolume exchanged", v, ok, volumeOf(3, 2,
		1, 1, 1, 3, 10, 3,
		1, 1, 0, 7, 2.5, 6.5))
}

// Disparities beyond the edge have the cost of the first cell of the row.
func TestCostsBeyondTheEdge(t *testing.T) {
	left := pictureOf(2, 5, 6, 7, 8)
	right := pictureOf(2, 1, 2, 4, 8)
	v, ok := impl.SizeVolume(left, right, 8)
	wantVolume(t, "SizeVolume beyond the edge", v, ok, volumeOf(2, 8,
		4, 4, 4, 4, 4, 4, 4, 4, 4, 5, 5, 5, 5, 5, 5, 5,
		3, 3, 3, 3, 3, 3, 3, 3, 0, 4, 4, 4, 4, 4, 4, 4))
	v, ok = impl.SquareVolume(left, right, 8)
	wantVolume(t, "SquareVolume beyond the edge", v, ok, volumeOf(2, 8,
		16, 16, 16, 16, 16, 16, 16, 16, 16, 25, 25, 25, 25, 25, 25, 25,
		9, 9, 9, 9, 9, 9, 9, 9, 0, 16, 16, 16, 16, 16, 16, 16))
	v, ok = impl.SquareVolume(pictureOf(1, 3), pictureOf(1, 1), 8)
	wantVolume(t, "SquareVolume of one cell", v, ok, volumeOf(1, 8, 4, 4, 4, 4, 4, 4, 4, 4))
}

// Costs are those of both greys, whatever these are.
func TestCostsAreThoseOfBothGreys(t *testing.T) {
	for _, c := range []struct{ left, right, size, square uint32 }{
		{0x40400000, 0x3f800000, 0x40000000, 0x40800000},
		{0x3f800000, 0x40400000, 0x40000000, 0x40800000},
		{0, 0, 0, 0},
		{bitsNull, 0, 0, 0}, // the difference is -0, which has no sign as a size
		{0, bitsNull, 0, 0},
		{1, 2, 1, 0},
		{2, 1, 1, 0},
		{0x80000001, 1, 2, 0},
		{0x1a000000, 0, 0x1a000000, 0}, // its square is half of the least number, and a tie
		{0x1a000001, 0, 0x1a000001, 1},
		{bitsNear, 0, bitsNear, bitsSquare},
		{0, bitsNear, bitsNear, bitsSquare},
		{bitsWhole, 0xbf800000, bitsWhole, 0x57800000}, // the difference is rounded
		{0x5f7fffff, 0, 0x5f7fffff, 0x7f7ffffe},
		{0x5f800000, 0, 0x5f800000, bitsInf},
		{bitsMost, 0, bitsMost, bitsInf},
		{bitsMost, 0xff7fffff, bitsInf, bitsInf},
		{0xff7fffff, bitsMost, bitsInf, bitsInf},
		{bitsInf, 0, bitsInf, bitsInf},
		{bitsLess, 0, bitsInf, bitsInf},
		{0, bitsInf, bitsInf, bitsInf},
		{bitsInf, bitsLess, bitsInf, bitsInf},
		{bitsInf, bitsInf, nanBits, nanBits},
		{bitsLess, bitsLess, nanBits, nanBits},
		{nanBits, 0, nanBits, nanBits},
		{0, 0xffc00000, nanBits, nanBits},
		{nanBits, bitsInf, nanBits, nanBits},
		{0xff800001, 0xffffffff, nanBits, nanBits},
	} {
		left, right := pictureAt(1, c.left), pictureAt(1, c.right)
		v, ok := impl.SizeVolume(left, right, 1)
		wantVolume(t, "SizeVolume of one cell", v, ok, volumeAt(1, 1, c.size))
		v, ok = impl.SquareVolume(left, right, 1)
		wantVolume(t, "SquareVolume of one cell", v, ok, volumeAt(1, 1, c.square))
	}
}

func TestCostsOfAllSizes(t *testing.T) {
	for i, size := range sizes() {
		deep := int64(1 + i%8)
		p := made(madeEven, size[0], size[1], i)
		q := made(madeEven, size[0], size[1], i+1000)
		square, ok := impl.SquareVolume(p, q, deep)
		want(t, "SquareVolume succeeds", ok, true)
		bySize, ok := impl.SizeVolume(p, q, deep)
		want(t, "SizeVolume succeeds", ok, true)
		want(t, "volumes are valid", impl.ValidVolume(square) && impl.ValidVolume(bySize), true)
		for k := range square.Costs {
			d, cell := int64(k)%deep, int64(k)/deep
			x, y := cell%size[0], cell/size[0]
			e := cellOf(p, x, y) - cellOf(q, x-d, y)
			wantBits(t, "SquareVolume", square.Costs[k], bitsOf(float32(e*e)))
			wantBits(t, "SizeVolume", bySize.Costs[k], bitsOf(max(e, -e)))
		}
	}
}

func TestRankVolume(t *testing.T) {
	left := pictureOf(3, 0, 0, 0, 0, 1, 2, 2, 2, 2) // with the ranks 0 0 0 / 0 240 240 / 224 192 128
	flat := pictureOf(3, 1, 1, 1, 1, 1, 1, 1, 1, 1) // with ranks 0
	v, ok := impl.RankVolume(left, flat, 1, 1)
	wantVolume(t, "RankVolume", v, ok, volumeOf(3, 1, 0, 0, 0, 0, 4, 4, 3, 2, 1))
	v, ok = impl.RankVolume(flat, left, 1, 2)
	wantVolume(t, "RankVolume exchanged", v, ok, volumeOf(3, 2, 0, 0, 0, 0, 0, 0, 0, 0, 4, 0, 4, 4, 3, 3, 2, 3, 1, 2))
	v, ok = impl.RankVolume(left, left, 1, 3)
	wantVolume(t, "RankVolume of a picture and itself", v, ok, volumeOf(3, 3,
		0, 0, 0, 0, 0, 0, 0, 0, 0,
		0, 0, 0, 0, 4, 4, 0, 0, 4,
		0, 0, 0, 0, 1, 1, 0, 1, 2))
	v, ok = impl.RankVolume(pictureOf(2, 1, 3), pictureOf(2, 1, 1), 2, 2)
	wantVolume(t, "RankVolume with the reach 2", v, ok, volumeOf(2, 2, 0, 0, 10, 10))
	p := pictureOf(5, 9, 9, 9, 9, 9, 9, 9, 9, 9, 9, 9, 9, 10, 9, 9, 9, 9, 9, 9, 9, 9, 9, 9, 9, 9)
	v, ok = impl.RankVolume(p, pictureOf(5, make([]float32, 25)...), 2, 1)
	want(t, "RankVolume succeeds", ok, true)
	wantBits(t, "RankVolume with the greatest distance", v.Costs[12], 0x41c00000)
	v, ok = impl.RankVolume(pictureAt(3, nanBits, bitsInf, bitsLess), pictureAt(3, nanBits, nanBits, nanBits), 1, 1)
	wantVolume(t, "RankVolume of special greys", v, ok, volumeOf(3, 1, 0, 3, 0))
}

// Beyond the edge, the rank is that of the first cell, and not that of a window
// beside the picture.
func TestRankVolumeBeyondTheEdge(t *testing.T) {
	left := pictureOf(2, 1, 1)
	right := pictureOf(2, 3, 1) // with the ranks 00101001 and 0
	v, ok := impl.RankVolume(left, right, 1, 8)
	wantVolume(t, "RankVolume beyond the edge", v, ok, volumeOf(2, 8, 3, 3, 3, 3, 3, 3, 3, 3, 0, 3, 3, 3, 3, 3, 3, 3))
	right = pictureOf(2, 1, 3) // with the ranks 0 and 10010100
	v, ok = impl.RankVolume(left, right, 1, 3)
	wantVolume(t, "RankVolume beyond the edge", v, ok, volumeOf(2, 3, 0, 0, 0, 3, 0, 0))
}

func TestRankVolumeOfAllSizes(t *testing.T) {
	for i, size := range sizes() {
		deep, reach := int64(1+i%8), int64(1+i/8%2)
		p := made(i%madeKinds, size[0], size[1], i)
		q := made(i%madeKinds, size[0], size[1], i+1000)
		v, ok := impl.RankVolume(p, q, reach, deep)
		want(t, "RankVolume succeeds", ok, true)
		want(t, "RankVolume is valid", impl.ValidVolume(v), true)
		for k, cost := range v.Costs {
			d, cell := int64(k)%deep, int64(k)/deep
			x, y := cell%size[0], cell/size[0]
			a, _ := impl.RankAt(p, x, y, reach)
			b, _ := impl.RankAt(q, max(x-d, 0), y, reach)
			wantBits(t, "RankVolume", cost, bitsOf(float32(unlikeDigits(a, b))))
		}
	}
}

func TestCostsThatDoNotExist(t *testing.T) {
	p := counted(4, 3)
	calls := map[string]func(p, q impl.Picture, deep int64) (impl.Volume, bool){
		"SquareVolume": impl.SquareVolume,
		"SizeVolume":   impl.SizeVolume,
		"RankVolume": func(p, q impl.Picture, deep int64) (impl.Volume, bool) {
			return impl.RankVolume(p, q, 1, deep)
		},
	}
	for name, f := range calls {
		for _, deep := range noDepths {
			v, ok := f(p, p, deep)
			wantNoVolume(t, name+" of no depth", v, ok)
		}
		for _, other := range []impl.Picture{counted(3, 4), counted(4, 2), counted(3, 3), counted(12, 1), counted(6, 2)} {
			v, ok := f(p, other, 2)
			wantNoVolume(t, name+" of other sizes", v, ok)
			v, ok = f(other, p, 2)
			wantNoVolume(t, name+" of other sizes", v, ok)
		}
		for what, q := range invalidPictures() {
			valid := counted(min(max(q.Wide, 1), 16), min(max(q.High, 1), 16))
			for _, pair := range [][2]impl.Picture{{valid, q}, {q, valid}, {q, q}} {
				v, ok := f(pair[0], pair[1], 1)
				wantNoVolume(t, name+": "+what, v, ok)
			}
		}
		for deep := int64(1); deep <= 8; deep++ {
			v, ok := f(counted(16, 16), counted(16, 16), deep)
			want(t, name+" of the greatest size succeeds", ok, true)
			want(t, name+" of the greatest size has costs", len(v.Costs), int(256*deep))
		}
	}
	for _, reach := range []int64{0, 3, -1, 4, math.MinInt64, math.MaxInt64} {
		v, ok := impl.RankVolume(p, p, reach, 2)
		wantNoVolume(t, "RankVolume of no reach", v, ok)
	}
}

func TestSliceOf(t *testing.T) {
	v := volumeAt(2, 3, 1, nanBits, 3, bitsNull, 5, bitsInf)
	for d, wanted := range []impl.Picture{pictureAt(2, 1, bitsNull), pictureAt(2, nanBits, 5), pictureAt(2, 3, bitsInf)} {
		p, ok := impl.SliceOf(v, int64(d))
		wantPicture(t, "SliceOf", p, ok, wanted)
	}
	p, ok := impl.SliceOf(countedVolume(2, 2, 2), 1)
	wantPicture(t, "SliceOf two rows", p, ok, pictureOf(2, 2, 4, 6, 8))
	for _, d := range append(beside, 3, 4, 8) {
		p, ok := impl.SliceOf(v, d)
		wantNoPicture(t, "SliceOf of no disparity", p, ok)
	}
	_, ok = impl.SliceOf(emptyVolume(1, 1, 8), 7)
	want(t, "SliceOf of the last disparity succeeds", ok, true)
}

func TestStackOf(t *testing.T) {
	v, ok := impl.StackOf([]impl.Picture{pictureAt(2, 1, bitsNull), pictureAt(2, nanBits, 5), pictureAt(2, 3, bitsInf)})
	wantVolume(t, "StackOf", v, ok, volumeAt(2, 3, 1, nanBits, 3, bitsNull, 5, bitsInf))
	v, ok = impl.StackOf([]impl.Picture{counted(3, 2)})
	wantVolume(t, "StackOf one", v, ok, countedVolume(3, 2, 1))
	v, ok = impl.StackOf(nil)
	wantNoVolume(t, "StackOf none", v, ok)
	for count := range 12 {
		slices := make([]impl.Picture, count)
		for i := range slices {
			slices[i] = counted(16, 16)
		}
		v, ok := impl.StackOf(slices)
		if count == 0 || count > 8 {
			wantNoVolume(t, "StackOf too few or too many", v, ok)
			continue
		}
		want(t, "StackOf succeeds", ok, true)
		want(t, "StackOf is valid", impl.ValidVolume(v), true)
		want(t, "depth of StackOf", v.Deep, int64(count))
		for i := range slices {
			for _, other := range []impl.Picture{counted(16, 15), counted(15, 16), {Wide: 16, High: 16}, {}} {
				kept := slices[i]
				slices[i] = other
				v, ok := impl.StackOf(slices)
				if count > 1 || !impl.ValidPicture(other) {
					wantNoVolume(t, "StackOf of another size", v, ok)
				}
				slices[i] = kept
			}
		}
	}
	for name, p := range invalidPictures() {
		for _, slices := range [][]impl.Picture{{p}, {p, p}, {counted(2, 2), p}, {p, counted(2, 2)}} {
			v, ok := impl.StackOf(slices)
			wantNoVolume(t, "StackOf: "+name, v, ok)
		}
	}
}

// Slices make the volume of which they are.
func TestSlicesAreStacked(t *testing.T) {
	for i, size := range sizes() {
		v := madeVolume(i%madeKinds, size[0], size[1], int64(1+i%8), i)
		var slices []impl.Picture
		for d := range v.Deep {
			p, ok := impl.SliceOf(v, d)
			want(t, "SliceOf succeeds", ok, true)
			slices = append(slices, p)
		}
		u, ok := impl.StackOf(slices)
		wantVolume(t, "StackOf slices", u, ok, v)
	}
}
