package tests

import (
	"fmt"
	"math"
	"math/big"
	"testing"

	"loop.example/g01223/impl"
)

// byteOfGrey tells a byte with numbers that are not rounded.
func byteOfGrey(grey float32) byte {
	switch {
	case !(grey > 0):
		return 0
	case grey > 1:
		return 255
	}
	n := new(big.Rat).SetFloat64(float64(grey))
	n.Mul(n, big.NewRat(255, 1))
	n.Add(n, big.NewRat(1, 2))
	return byte(new(big.Int).Div(n.Num(), n.Denom()).Int64())
}

func TestGreyBytes(t *testing.T) {
	for _, c := range []struct {
		bits   uint32
		wanted byte
	}{
		{0, 0}, {bitsNull, 0}, {bitsHole, 0}, {bitsLess, 0}, {0x80000001, 0}, {0xbf000000, 0}, {0xff7fffff, 0},
		{nanBits, 0}, {0xffc00000, 0}, {0x7f800001, 0}, {0xff800001, 0}, {0x7fffffff, 0}, {0xffffffff, 0},
		{bitsInf, 255}, {bitsMost, 255}, {bitsTwo, 255}, {0x3f800001, 255}, {0x3fc00000, 255}, {bitsOne, 255},
		{0x3f7fffff, 255}, {1, 0}, {0x007fffff, 0}, {0x00800000, 0},
		// A half times 255 and 0.5 is just 128.
		{0x3f000000, 128}, {0x3effffff, 127}, {0x3f000001, 128},
		// The first ones that are not nearer to the integer below, and those before.
		{0x3b008081, 1}, {0x3b008080, 0}, {0x3bc0c0c1, 2}, {0x3bc0c0c0, 1}, {0x3f7f7f80, 255}, {0x3f7f7f7f, 254},
		{0x3e800000, 64}, {0x3f400000, 191}, {0x3b808081, 1}, {0x3f7efeff, 254},
	} {
		s, ok := impl.GreyBytes(pictureAt(1, c.bits))
		wantText(t, fmt.Sprintf("GreyBytes of %08x", c.bits), s, ok, string([]byte{c.wanted}))
	}
	s, ok := impl.GreyBytes(pictureOf(3, -1, 0.5, 2, 1, 0.25, 0))
	wantText(t, "GreyBytes of two rows", s, ok, "\x00\x80\xff\xff\x40\x00")
	for name, p := range invalidPictures() {
		s, ok := impl.GreyBytes(p)
		wantNone(t, "GreyBytes of "+name, s, ok)
	}
}

// wantGreyBytes checks the bytes of at most 256 greys.
func wantGreyBytes(t *testing.T, greys []float32) {
	t.Helper()
	for len(greys) > 0 {
		count := min(len(greys), 16)
		var wanted []byte
		for _, grey := range greys[:count] {
			wanted = append(wanted, byteOfGrey(grey))
		}
		s, ok := impl.GreyBytes(pictureOf(int64(count), greys[:count]...))
		wantText(t, "GreyBytes", s, ok, string(wanted))
		greys = greys[count:]
	}
}

func TestGreyBytesOfAllNumbers(t *testing.T) {
	var list []float32
	for i := range 65536 {
		list = append(list, at(wideBits(i)), float32(i)/65536)
	}
	wantGreyBytes(t, list)
	wantGreyBytes(t, listOf(specialBits...))
}

// Where bytes change, each grey counts.
func TestGreyBytesBetweenBytes(t *testing.T) {
	for k := range 256 {
		for _, x := range []float64{float64(k) / 255, (float64(k) + 0.5) / 255} {
			var list []float32
			grey := float32(x)
			for range 20 {
				grey = math.Nextafter32(grey, -1)
			}
			for range 40 {
				list = append(list, grey)
				grey = math.Nextafter32(grey, 2)
			}
			wantGreyBytes(t, list)
		}
	}
}

func TestGreyPicture(t *testing.T) {
	p, ok := impl.GreyPicture("\x00\xff", 2, 1)
	wantPicture(t, "GreyPicture of the example", p, ok, pictureOf(2, 0, 1))
	p, ok = impl.GreyPicture("\x01\x02\x03\x64\x7f\x80\xfe\x00", 4, 2)
	wantPicture(t, "GreyPicture", p, ok, pictureAt(4, 0x3b808081, 0x3c008081, 0x3c40c0c1, 0x3ec8c8c9, 0x3efefeff, 0x3f008081, 0x3f7efeff, 0))
	p, ok = impl.GreyPicture("\x01\x02\x03\x64\x7f\x80", 2, 3)
	wantPicture(t, "GreyPicture of three rows", p, ok, pictureAt(2, 0x3b808081, 0x3c008081, 0x3c40c0c1, 0x3ec8c8c9, 0x3efefeff, 0x3f008081))
	// Texts are bytes, whether they are characters or not.
	p, ok = impl.GreyPicture("\u00e9", 2, 1)
	wantPicture(t, "GreyPicture of a character", p, ok, pictureOf(2, float32(0xc3)/255, float32(0xa9)/255))
	for _, size := range noSizes {
		count := min(max(size[0]*size[1], 0), 1000)
		p, ok := impl.GreyPicture(string(make([]byte, count)), size[0], size[1])
		wantNoPicture(t, fmt.Sprint("GreyPicture of the size ", size), p, ok)
		p, ok = impl.GreyPicture("", size[0], size[1])
		wantNoPicture(t, fmt.Sprint("GreyPicture of nothing and the size ", size), p, ok)
	}
	for _, count := range []int{0, 1, 5, 7, 12, 36, 256} {
		p, ok := impl.GreyPicture(string(make([]byte, count)), 3, 2)
		wantNoPicture(t, fmt.Sprint("GreyPicture of bytes: ", count), p, ok)
	}
}

// The bytes of a picture of bytes are these, for all bytes and sizes.
func TestGreyPictureThereAndBack(t *testing.T) {
	for i, size := range sizes() {
		list := make([]byte, size[0]*size[1])
		for k := range list {
			list[k] = byte(k*(2*i+1) + i)
		}
		p, ok := impl.GreyPicture(string(list), size[0], size[1])
		want(t, "GreyPicture succeeds", ok, true)
		want(t, "sides of GreyPicture", [2]int64{p.Wide, p.High}, size)
		for k, b := range list {
			wantBits(t, fmt.Sprint("grey of ", b), p.Greys[k], bitsOf(float32(b)/255))
		}
		s, ok := impl.GreyBytes(p)
		wantText(t, "GreyBytes of GreyPicture", s, ok, string(list))
	}
}

func TestPackMap(t *testing.T) {
	for _, c := range []struct {
		m      impl.Map
		wanted string
	}{
		{mapOf(3, 1, 1, -1), "\x02\x02\x01\x00"},
		{mapOf(1, 0), "\x01\x01"},
		{mapOf(1, -1), "\x01\x00"},
		{mapOf(1, 254), "\x01\xff"},
		{mapOf(2, 253, 254), "\x01\xfe\x01\xff"},
		{mapOf(2, 7, 7), "\x02\x08"},
		{mapOf(1, 7, 7), "\x01\x08\x01\x08"},
		{mapOf(2, 7, 7, 7, 7), "\x02\x08\x02\x08"},
		{mapOf(2, 7, 6, 6, 7), "\x01\x08\x01\x07\x01\x07\x01\x08"},
		{mapOf(5, 1, 2, 2, 2, 1), "\x01\x02\x03\x03\x01\x02"},
		{mapOf(4, 1, 2, 1, 2), "\x01\x02\x01\x03\x01\x02\x01\x03"},
		// Both zeros are 0, and equal.
		{mapAt(1, bitsNull), "\x01\x01"},
		{mapAt(4, bitsNull, 0, bitsNull, bitsOne), "\x03\x01\x01\x02"},
		{mapAt(4, bitsOne, 0, bitsNull, 0), "\x01\x02\x03\x01"},
	} {
		s, ok := impl.PackMap(c.m)
		wantText(t, fmt.Sprint("PackMap of ", c.m), s, ok, c.wanted)
	}
	row, ok := impl.FlatMap(24, 2, 3)
	want(t, "FlatMap succeeds", ok, true)
	s, ok := impl.PackMap(row)
	wantText(t, "PackMap of whole rows", s, ok, "\x18\x04\x18\x04")
}

func TestPackMapThatDoesNotExist(t *testing.T) {
	for _, bits := range append([]uint32{
		0x3f000000, 0xbf000000, 0x3f7fffff, 0x3f800001, 0xbf7fffff, 0xbf800001, 0xc0000000, 0xc0400000, 0x437f0000, 0x437e0001,
		0x437e8000, 0x437dffff, 0x43800000, 0x43808000, 0x44000000, 0x4f000000, 0x4f800000, 0x5f000000, 0x5f800000, 0xdf000000, 0xdf800000, 1, 0x80000001,
	}, append(notFinite, bitsMost, 0xff7fffff)...) {
		for _, m := range []impl.Map{mapAt(1, bits), mapAt(2, 0, bits), mapAt(2, bits, 0), mapAt(1, 0, 0, bits), mapAt(2, bits, bits)} {
			s, ok := impl.PackMap(m)
			wantNone(t, fmt.Sprintf("PackMap with %08x", bits), s, ok)
		}
	}
	for name, m := range invalidMaps() {
		s, ok := impl.PackMap(m)
		wantNone(t, "PackMap of "+name, s, ok)
	}
}

// packable returns a map with values from -1 on, many of them or of its runs
// for some kinds.
func packable(kind int, wide, high int64, seed int) impl.Map {
	maker := maker{seed: uint32(seed)}
	m := impl.Map{Wide: wide, High: high, Values: make([]float32, wide*high)}
	count := []uint32{2, 5, 20, 256, 256}[kind]
	for i := range m.Values {
		n := maker.next()
		m.Values[i] = float32(n/4%count) - 1
		if kind == 3 && n%4 != 0 && i > 0 {
			m.Values[i] = m.Values[i-1]
		}
	}
	return m
}

// runsOf tells the runs of a map without the functions under test.
func runsOf(m impl.Map) string {
	var runs []byte
	for i, value := range m.Values {
		if i%int(m.Wide) != 0 && value == m.Values[i-1] {
			runs[len(runs)-2]++
			continue
		}
		runs = append(runs, 1, byte(int(value)+1))
	}
	return string(runs)
}

func TestPackMapThereAndBack(t *testing.T) {
	for i, size := range sizes() {
		for kind := range 5 {
			m := packable(kind, size[0], size[1], i)
			s, ok := impl.PackMap(m)
			wantText(t, "PackMap", s, ok, runsOf(m))
			back, ok := impl.UnpackMap(s, size[0], size[1])
			wantMap(t, "UnpackMap of PackMap", back, ok, m)
			for k, value := range m.Values {
				if value == 0 && k%2 == 0 {
					m.Values[k] = at(bitsNull)
				}
			}
			again, ok := impl.PackMap(m)
			wantText(t, "PackMap with zeros of both signs", again, ok, s)
		}
	}
	for value := -1; value <= 254; value++ {
		m, ok := impl.UnpackMap(string([]byte{1, byte(value + 1)}), 1, 1)
		wantMap(t, "UnpackMap of one value", m, ok, mapOf(1, float32(value)))
	}
}
