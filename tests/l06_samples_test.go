package tests

import (
	"fmt"
	"math"
	"testing"

	"loop.example/g01223/impl"
)

func TestSampleAt(t *testing.T) {
	pair, square := pictureOf(2, 1, 3), pictureOf(2, 1, 3, 5, 11)
	for _, c := range []struct {
		p      impl.Picture
		x, y   float32
		wanted uint32
	}{
		{pair, 0.5, 0, bitsTwo}, {pair, 7, 0, bitsThree}, {pair, 0.25, 0, 0x3fc00000}, {pair, 0, 0, bitsOne}, {pair, 1, 0, bitsThree},
		{square, 0.5, 0.5, bitsFive}, {square, 0.25, 0.75, 0x40a80000}, {square, 0.75, 0.25, 0x40880000},
		{square, 0, 0.5, bitsThree}, {square, 1, 0.5, bitsSeven}, {square, 0.5, 0, bitsTwo}, {square, 0.5, 1, 0x41000000},
		// Beside the picture, greys are those of the nearest cells.
		{square, -0.5, 0, bitsOne}, {square, -0.25, -0.75, bitsOne}, {square, -7.5, 0.5, bitsThree}, {square, 0.5, -9, bitsTwo},
		{square, 1.5, 0.5, bitsSeven}, {square, 1.0000001, 1.0000001, 0x41300000}, {square, 0.5, 1.75, 0x41000000},
		{square, -1000, -1000, bitsOne}, {square, 1000, 1000, 0x41300000}, {square, -1000, 1000, bitsFive}, {square, 1000, -1000, bitsThree},
		{square, 1000, 0.5, bitsSeven}, {square, 0.5, 1000, 0x41000000}, {square, 999.75, -999.25, bitsThree},
		{square, at(1), 0, bitsOne}, {square, at(0x80000001), at(0x80000001), bitsOne},
		{square, 0.99999994, 0, bitsThree}, {square, 0, 0.99999994, bitsFive},
		{pictureOf(1, 7), 0.5, 0.5, bitsSeven}, {pictureOf(1, 1, 3), 0, 0.5, bitsTwo},
	} {
		got, ok := impl.SampleAt(c.p, c.x, c.y)
		wantNumber(t, fmt.Sprint("SampleAt ", c.x, ", ", c.y, " of ", c.p.Greys), got, ok, c.wanted)
	}
	for _, bits := range append([]uint32{0x447a0001, 0xc47a0001, 0x4b800000, bitsMost, 0xff7fffff}, notFinite...) {
		got, ok := impl.SampleAt(square, at(bits), 0)
		wantNoNumber(t, fmt.Sprint("SampleAt x ", at(bits)), got, ok)
		got, ok = impl.SampleAt(square, 0, at(bits))
		wantNoNumber(t, fmt.Sprint("SampleAt y ", at(bits)), got, ok)
		got, ok = impl.SampleAt(square, at(bits), at(bits))
		wantNoNumber(t, fmt.Sprint("SampleAt both ", at(bits)), got, ok)
	}
}

func TestRoundedSamples(t *testing.T) {
	for _, c := range []struct {
		greys        []uint32
		x, y, wanted uint32
	}{
		// Rows come first, and each difference, product and sum is rounded.
		{[]uint32{0x3e60542a, 0x3f845682, 0x3fdd6819, 0xc028572c}, 0x3f680326, 0x3eb6390c, 0xbe322a98},
		{[]uint32{0xbef29070, 0x40d04aa0, 0xbfec0cd6, 0x40ad94bb}, 0x3f04d355, 0x3f54001a, 0x4008c7da},
		{[]uint32{0x41030570, 0x40ee4860, 0x40c7bca7, 0xbfa70f27}, 0x3f731ea8, 0x3f7835c2, 0xbf2b67b0},
		{[]uint32{bitsWhole, bitsOne, bitsWhole, bitsOne}, bitsOne, 0, bitsOne},
		{[]uint32{bitsWhole, bitsHole, bitsWhole, bitsHole}, 0x3f7fffff, 0, 0x3f800000},
		// At a whole place, too, what is beside it counts, if it is not finite.
		{[]uint32{bitsOne, bitsInf, bitsOne, bitsOne}, 0, 0, nanBits},
		{[]uint32{bitsOne, bitsOne, bitsOne, nanBits}, 0, 0, nanBits},
		{[]uint32{bitsOne, bitsInf, bitsOne, bitsInf}, 0x3f000000, 0, nanBits},
		{[]uint32{bitsOne, bitsInf, bitsOne, bitsOne}, 0x3f000000, 0, nanBits},
		{[]uint32{bitsOne, bitsOne, bitsInf, bitsOne}, bitsOne, 0, bitsOne},
		{[]uint32{bitsOne, bitsOne, bitsInf, bitsInf}, 0, bitsOne, nanBits},
		{[]uint32{bitsMost, 0xff7fffff, bitsOne, bitsOne}, 0x3f000000, 0, nanBits},
		{[]uint32{bitsMost, bitsMost, bitsOne, bitsOne}, 0x3f000000, 0, bitsMost},
		// -0 stays just where both shares have a sign: an integer 0 has none.
		{[]uint32{bitsNull, bitsNull, bitsNull, bitsNull}, 0, 0, 0},
		{[]uint32{bitsNull, bitsNull, bitsNull, bitsNull}, bitsNull, bitsNull, bitsNull},
		{[]uint32{bitsNull, bitsNull, bitsNull, bitsNull}, bitsNull, 0, 0},
		{[]uint32{bitsNull, bitsNull, bitsNull, bitsNull}, 0, bitsNull, 0},
		{[]uint32{bitsNull, bitsHole, bitsNull, bitsHole}, 0, bitsNull, bitsNull},
	} {
		got, ok := impl.SampleAt(pictureAt(2, c.greys...), at(c.x), at(c.y))
		wantNumber(t, fmt.Sprintf("SampleAt %08x, %08x of %08x", c.x, c.y, c.greys), got, ok, c.wanted)
	}
}

// At whole places, samples are the greys about them, where greys are finite.
func TestSamplesAtWholePlaces(t *testing.T) {
	for i, size := range sizes() {
		p := made([]int{madeEven, madeFew}[i%2], size[0], size[1], i)
		for y := int64(-3); y < size[1]+3; y++ {
			for x := int64(-3); x < size[0]+3; x++ {
				got, ok := impl.SampleAt(p, float32(x), float32(y))
				wantNumber(t, fmt.Sprint("SampleAt ", x, ", ", y), got, ok, bitsOf(cellOf(p, x, y)))
			}
		}
	}
}

// Samples lie between the greys of the four cells about them, nearly.
func TestSamplesLieBetweenGreys(t *testing.T) {
	for _, size := range sizes() {
		s := madeScene(patchyEven, size[0], size[1])
		p := made(madeEven, size[0], size[1], s.seed)
		for i, x := range s.s {
			u, v := int64(math.Floor(float64(x))), int64(math.Floor(float64(s.t[i])))
			four := []float32{cellOf(p, u, v), cellOf(p, u+1, v), cellOf(p, u, v+1), cellOf(p, u+1, v+1)}
			least, greatest := min(four[0], four[1], four[2], four[3]), max(four[0], four[1], four[2], four[3])
			got, ok := impl.SampleAt(p, x, s.t[i])
			want(t, "SampleAt succeeds", ok, true)
			if got < least-1e-6 || got > greatest+1e-6 {
				t.Errorf("SampleAt %v, %v: got %v, want a grey from %v to %v", x, s.t[i], got, least, greatest)
			}
		}
	}
}

// The greys of a plane are those between its cells, too.
func TestSamplesOfASlope(t *testing.T) {
	p := impl.Picture{Wide: 16, High: 16, Greys: make([]float32, 256)}
	for i := range p.Greys {
		p.Greys[i] = float32(i%16)*4 - float32(i/16)*2
	}
	for i := range 4096 {
		x, y := float32(i%64)/4, float32(i/64)/4
		got, ok := impl.SampleAt(p, x, y)
		wantNumber(t, fmt.Sprint("SampleAt ", x, ", ", y), got, ok, bitsOf(min(x, 15)*4-min(y, 15)*2))
	}
}

func TestBackPicture(t *testing.T) {
	pair := pictureOf(2, 1, 3)
	row := pictureOf(4, 1, 3, 7, 15)
	for _, c := range []struct {
		what   string
		m      impl.Map
		right  impl.Picture
		wanted impl.Picture
	}{
		{"the given one", mapOf(2, -1, 1), pair, pictureOf(2, 0, 1)},
		{"no disparities", mapOf(4, 0, 0, 0, 0), row, row},
		{"whole disparities", mapOf(4, 0, 1, 1, 3), row, pictureOf(4, 1, 1, 3, 1)},
		{"disparities that lead beside the picture", mapOf(4, 5, 5, 100, 1000), row, pictureOf(4, 1, 1, 1, 1)},
		{"disparities between cells", mapOf(4, 0.25, 0.5, 0.25, 1.5), row, pictureOf(4, 1, 2, 6, 5)},
		{"holes", mapOf(4, -1, -0.25, -1000, -2), row, pictureOf(4, 0, 0, 0, 0)},
		{"rows on their own", mapOf(2, 0, 1, 1, 0), pictureOf(2, 1, 3, 5, 11), pictureOf(2, 1, 1, 5, 11)},
		{"special holes", mapAt(4, nanBits, bitsLess, 0xff800001, 0x80000001), row, pictureOf(4, 0, 0, 0, 0)},
		{"-0 and the least number", mapAt(4, bitsNull, 1, bitsNull, 0), row, pictureOf(4, 1, 3, 7, 15)},
		{"a column", mapOf(1, 0, 2, -1), pictureOf(1, 4, 5, 6), pictureOf(1, 4, 5, 0)},
		{"the greatest disparities", mapOf(4, 1000, 1001, 1002, 1003), row, pictureOf(4, 1, 1, 1, 1)},
		{"greys that are not finite", mapOf(3, 0, 0, 0), pictureAt(3, bitsOne, bitsInf, bitsOne), pictureAt(3, nanBits, nanBits, bitsOne)},
		{"holes beside greys that are not finite", mapOf(2, -1, -1), pictureAt(2, nanBits, bitsInf), pictureOf(2, 0, 0)},
	} {
		got, ok := impl.BackPicture(c.m, c.right)
		wantPicture(t, "BackPicture of "+c.what, got, ok, c.wanted)
	}
	for what, m := range map[string]impl.Map{
		"an infinity":                    mapAt(4, 0, 0, 0, bitsInf),
		"an infinity first":              mapAt(4, bitsInf, 0, 0, 0),
		"a disparity that is too great":  mapAt(4, 0x447a0001, 0, 0, 0),
		"too great in the second cell":   mapOf(4, 0, 1001.5, -1, -1),
		"too great in the last cell":     mapOf(4, 0, 0, 0, 1003.5),
		"the greatest number":            mapAt(4, bitsHole, bitsHole, bitsMost, bitsHole),
		"all of them that are too great": mapOf(4, 5000, 5000, 5000, 5000),
	} {
		got, ok := impl.BackPicture(m, row)
		wantNoPicture(t, "BackPicture of "+what, got, ok)
	}
}

// BackPicture is WarpPicture where all disparities are whole, and greys finite.
func TestBackPictureOfWholeDisparities(t *testing.T) {
	for i, size := range sizes() {
		m := patchyMap(patchyFew, size[0], size[1], i)
		for k, d := range m.Values {
			if isHole(d) {
				m.Values[k] = -1
			}
		}
		p := made(madeFew, size[0], size[1], i)
		got, ok := impl.BackPicture(m, p)
		wanted, okWarp := impl.WarpPicture(p, m)
		want(t, "WarpPicture succeeds", okWarp, true)
		wantPicture(t, "BackPicture", got, ok, wanted)
	}
}

func TestRowOffset(t *testing.T) {
	column := func(greys ...float32) impl.Picture { return pictureOf(1, greys...) }
	bits := func(list ...uint32) impl.Picture { return pictureAt(1, list...) }
	for _, c := range []struct {
		what string
		a, b impl.Picture
		most int64
		rows int64
		sum  uint32
	}{
		{"the given pictures", column(1, 2), column(1, 2), 1, 0, 0},
		{"one row further", column(1, 2, 3, 4), column(9, 1, 2, 3), 2, 1, bitsOne},
		{"one row before", column(1, 2, 3, 4), column(2, 3, 4, 9), 2, -1, bitsOne},
		{"one row further than most", column(1, 2, 3, 4), column(9, 1, 2, 3), 0, 0, 0x41300000},
		{"two columns", pictureOf(2, 1, 5, 2, 6, 3, 7), pictureOf(2, 0, 0, 1, 5, 2, 6), 1, 1, bitsTwo},
		// Of several offsets with the same sum, the least one.
		{"flat pictures", column(3, 3, 3), column(3, 3, 3), 8, -8, 0},
		{"one cell", column(3), column(5), 8, -8, bitsTwo},
		{"one row", pictureOf(3, 1, 2, 3), pictureOf(3, 1, 2, 4), 3, -3, bitsOne},
		{"equal sums on both sides", column(0, 1, 0), column(1, 0, 1), 1, -1, bitsOne},
		{"equal sums, the first two rows", column(0, 4, 4), column(4, 4, 0), 2, -2, bitsFour},
		// Sums go cell by cell, in order.
		{"rounded sums", column(1<<24, 1, 1), column(0, 0, 0), 0, 0, bitsWhole},
		{"rounded sums of four cells", column(1<<24, 1, 1, 1), column(0, 0, 0, 0), 0, 0, bitsWhole},
		{"sums with a great number at the end", column(1, 1, 1<<24), column(0, 0, 0), 0, 0, 0x4b800001},
		{"rounded sums by rows", pictureOf(2, 1, 1<<24, 1, 0), pictureOf(2, 0, 0, 0, 0), 0, 0, bitsWhole},
		{"sums that are too great", bits(bitsMost, bitsMost), column(0, 0), 0, 0, bitsInf},
		{"infinite differences", bits(bitsInf, bitsOne), column(0, 0), 0, 0, bitsInf},
		{"absolute values", column(1, -1), column(0, 0), 0, 0, bitsTwo},
		{"zeros", bits(bitsNull), bits(0), 0, 0, 0},
		// A sum with a not-a-number is one, and is left out of the sums.
		{"a not-a-number above", column(0, 0), bits(nanBits, bitsOne), 1, 1, bitsTwo},
		{"a not-a-number above, and the other cells alone have the same sum", column(1, 5), bits(nanBits, bitsOne), 1, 1, bitsFour},
		{"a not-a-number below", column(1, 1), bits(bitsThree, 0xff800001), 1, -1, bitsFour},
		{"a not-a-number between others", column(1, 2, 3), bits(bitsFour, nanBits, bitsTwo), 2, 2, bitsTwo},
		{"a not-a-number in one of two columns", pictureOf(2, 1, 2, 3, 4), pictureAt(2, nanBits, bitsTwo, bitsThree, bitsFour), 1, 1, bitsFour},
		{"sums of not-a-numbers before one sum", column(1, 1, 1), bits(nanBits, nanBits, bitsSeven), 2, 2, 0x41900000},
		{"an infinite sum behind not-a-numbers", column(0, 0), bits(nanBits, bitsInf), 1, 1, bitsInf},
		{"an infinity less itself at one offset", bits(0, bitsInf), bits(bitsInf, 0), 1, 0, bitsInf},
		{"infinities less themselves at some offsets", bits(bitsInf, bitsOne), bits(bitsInf, bitsThree), 1, 1, bitsInf},
	} {
		rows, sum, ok := impl.RowOffset(c.a, c.b, c.most)
		wantNumber(t, "sum of RowOffset of "+c.what, sum, ok, c.sum)
		want(t, "RowOffset of "+c.what, rows, c.rows)
	}
}

func TestRowOffsetOfNothing(t *testing.T) {
	none := func(what string, rows int64, sum float32, ok bool) {
		t.Helper()
		wantNoNumber(t, what, sum, ok)
		want(t, "rows of "+what, rows, 0)
	}
	p := counted(3, 4)
	for _, most := range []int64{-1, -8, 9, 10, math.MinInt64, math.MaxInt64, 1 << 32} {
		rows, sum, ok := impl.RowOffset(p, p, most)
		none(fmt.Sprint("RowOffset with at most ", most), rows, sum, ok)
	}
	for most := range int64(9) {
		rows, sum, ok := impl.RowOffset(p, p, most)
		wantNumber(t, "RowOffset of a picture and itself", sum, ok, 0)
		want(t, "RowOffset of a picture and itself", rows, 0)
		for _, pair := range [][2]uint32{{nanBits, bitsOne}, {bitsOne, nanBits}, {bitsInf, bitsInf}, {bitsLess, bitsLess}, {nanBits, 0xff800001}} {
			a, _ := impl.FlatPicture(3, 4, at(pair[0]))
			b, _ := impl.FlatPicture(3, 4, at(pair[1]))
			rows, sum, ok := impl.RowOffset(a, b, most)
			none(fmt.Sprintf("RowOffset of %08x and %08x", pair[0], pair[1]), rows, sum, ok)
		}
	}
}

// Where some differences are numbers, but no sum is one, there is no offset.
func TestRowOffsetWithoutSums(t *testing.T) {
	column := func(greys ...float32) impl.Picture { return pictureOf(1, greys...) }
	bits := func(list ...uint32) impl.Picture { return pictureAt(1, list...) }
	for _, c := range []struct {
		what string
		a, b impl.Picture
		most int64
	}{
		{"a not-a-number in the first row of a", bits(nanBits, bitsThree), column(1, 2), 0},
		{"a not-a-number in a, and any offset", bits(nanBits, bitsThree), column(1, 2), 8},
		{"a not-a-number in the last row of a", bits(bitsThree, bitsOne, 0xff800001), column(1, 2, 3), 8},
		{"not-a-numbers in both", bits(bitsOne, nanBits), bits(nanBits, bitsThree), 1},
		{"a not-a-number in the first row of b", column(5, 1), bits(nanBits, bitsThree), 0},
		{"a not-a-number in the last row of b", column(5, 1), bits(bitsThree, 0xff800001), 0},
		{"a not-a-number in the row that all offsets have", column(1, 2, 3), bits(bitsFour, nanBits, bitsTwo), 1},
		{"an infinity less itself", bits(bitsInf, bitsOne), bits(bitsInf, bitsThree), 0},
		{"a negative infinity less itself", bits(bitsThree, bitsLess), bits(bitsOne, bitsLess), 0},
		{"a not-a-number in one of two columns", pictureAt(2, bitsOne, nanBits, bitsOne, bitsOne), pictureOf(2, 1, 2, 3, 4), 8},
	} {
		rows, sum, ok := impl.RowOffset(c.a, c.b, c.most)
		wantNoNumber(t, "RowOffset with "+c.what, sum, ok)
		want(t, "rows of RowOffset with "+c.what, rows, 0)
	}
}

// sumWithRowsOff tells the sum of RowOffset of one offset.
func sumWithRowsOff(a, b impl.Picture, rows int64) float32 {
	sum := float32(0)
	for i := range a.Wide * a.High {
		x, y := i%a.Wide, i/a.Wide
		sum += max(cellOf(a, x, y)-cellOf(b, x, y+rows), cellOf(b, x, y+rows)-cellOf(a, x, y))
	}
	return sum
}

// An offset is found among those that keep clear of the row with a not-a-number.
func TestRowOffsetBesideNotANumbers(t *testing.T) {
	for i, size := range sizes() {
		a, b := made(madeFew, size[0], size[1], i), made(madeFew, size[0], size[1], i+1)
		most, row := int64(i%9), int64(i)%size[1]
		found, wantedRows, wanted := false, int64(0), float32(0)
		for k := -most; k <= most; k++ {
			first, last := min(max(0, k), size[1]-1), max(0, min(size[1]-1, size[1]-1+k))
			isClear := row < first || row > last
			if sum := sumWithRowsOff(a, b, k); isClear && (!found || sum < wanted) {
				found, wantedRows, wanted = true, k, sum
			}
		}
		b.Greys[row*size[0]+int64(i)%size[0]] = at(nanBits)
		rows, sum, ok := impl.RowOffset(a, b, most)
		what := fmt.Sprintf("RowOffset %v with at most %d and a not-a-number in the row %d", size, most, row)
		want(t, what+" succeeds", ok, found)
		want(t, what, rows, wantedRows)
		wantBits(t, "sum of "+what, sum, bitsOf(wanted))
	}
}

// A picture that is some rows further is found to be so.
func TestRowOffsetOfShiftedPictures(t *testing.T) {
	for _, size := range sizes() {
		if size[1] < 9 {
			continue
		}
		a := counted(size[0], size[1])
		for by := int64(-3); by <= 3; by++ {
			b := impl.Picture{Wide: size[0], High: size[1]}
			for i := range size[0] * size[1] {
				b.Greys = append(b.Greys, cellOf(a, i%size[0], i/size[0]-by))
			}
			rows, sum, ok := impl.RowOffset(a, b, 8)
			want(t, fmt.Sprint("RowOffset of a picture ", size, " by ", by), rows, by)
			// The rows at the end stand for those that are gone, and others do not.
			wantNumber(t, "sum of RowOffset", sum, ok, bitsOf(sumWithRowsOff(a, b, by)))
		}
	}
}
