package tests

import (
	"fmt"
	"strconv"
	"strings"
	"testing"

	"loop.example/g01223/impl"
)

func TestStorePicture(t *testing.T) {
	for _, c := range []struct {
		p      impl.Picture
		wanted string
	}{
		{pictureOf(1, 1), "EYE1\x01\x01\x00\x00\x80\x3f"},
		{pictureOf(2, -2, 0.5), "EYE1\x02\x01\x00\x00\x00\xc0\x00\x00\x00\x3f"},
		{pictureOf(1, -2, 0.5), "EYE1\x01\x02\x00\x00\x00\xc0\x00\x00\x00\x3f"},
		{pictureAt(2, 0x01020304, 0xfedcba98), "EYE1\x02\x01\x04\x03\x02\x01\x98\xba\xdc\xfe"},
		{pictureAt(1, bitsNull), "EYE1\x01\x01\x00\x00\x00\x80"},
		{pictureAt(2, bitsInf, bitsLess), "EYE1\x02\x01\x00\x00\x80\x7f\x00\x00\x80\xff"},
		// All not-a-numbers are one value.
		{pictureAt(1, nanBits), "EYE1\x01\x01\x00\x00\xc0\x7f"},
		{pictureAt(2, 0xffffffff, 0x7f800001), "EYE1\x02\x01\x00\x00\xc0\x7f\x00\x00\xc0\x7f"},
	} {
		s, ok := impl.StorePicture(c.p)
		wantText(t, fmt.Sprint("StorePicture of ", c.p), s, ok, c.wanted)
	}
	for name, p := range invalidPictures() {
		s, ok := impl.StorePicture(p)
		wantNone(t, "StorePicture of "+name, s, ok)
	}
}

func TestStorePictureThereAndBack(t *testing.T) {
	for i, size := range sizes() {
		for kind := range madeKinds {
			p := made(kind, size[0], size[1], i)
			s, ok := impl.StorePicture(p)
			wantText(t, "StorePicture", s, ok, storedOf(p))
			want(t, "bytes of StorePicture", int64(len(s)), 6+4*size[0]*size[1])
			q, ok := impl.LoadPicture(s)
			wantPicture(t, "LoadPicture of StorePicture", q, ok, p)
		}
	}
	p := pictureAt(23, specialBits[:23]...)
	s, _ := impl.StorePicture(p)
	q, ok := impl.LoadPicture(s)
	wantPicture(t, "LoadPicture of special greys", q, ok, p)
}

// wantNoStored checks that no picture is stored so.
func wantNoStored(t *testing.T, what, s string) {
	t.Helper()
	p, ok := impl.LoadPicture(s)
	wantNoPicture(t, "LoadPicture of "+what+": "+strconv.Quote(s), p, ok)
}

func TestLoadPicture(t *testing.T) {
	p, ok := impl.LoadPicture("EYE1\x02\x01\x04\x03\x02\x01\x98\xba\xdc\xfe")
	wantPicture(t, "LoadPicture", p, ok, pictureAt(2, 0x01020304, 0xfedcba98))
	p, ok = impl.LoadPicture("EYE1\x01\x02\x00\x00\xc0\x7f\x00\x00\x80\xff")
	wantPicture(t, "LoadPicture", p, ok, pictureAt(1, nanBits, bitsLess))
	for _, mark := range []string{"", "E", "EYE", "EYE2", "eye1", "EYE0", "EYE1\x00", "\x00EYE1", "EYE11", " EYE1", "1EYE", "EYE\x31\x31", "EVE1", "AYE1", "EYF1"} {
		wantNoStored(t, "another mark", mark+"\x01\x01\x00\x00\x80\x3f")
	}
	// Other bits of not-a-numbers are those of no stored picture.
	for _, bits := range []uint32{0xffc00000, 0x7f800001, 0xff800001, 0x7fffffff, 0xffffffff, 0x7fa55555, 0x7fc00001, 0x7fbfffff} {
		wantNoStored(t, "another not-a-number", storedAs(1, 1, bits))
		wantNoStored(t, "another not-a-number behind others", storedAs(2, 2, 0, bitsOne, nanBits, bits))
		wantNoStored(t, "another not-a-number before others", storedAs(2, 2, bits, bitsOne, nanBits, 0))
	}
}

func TestLoadPictureOfSizes(t *testing.T) {
	for _, size := range [][2]byte{{0, 0}, {0, 1}, {1, 0}, {25, 1}, {1, 25}, {24, 11}, {11, 24}, {16, 17}, {17, 16}, {24, 24}, {0, 255}, {255, 0}, {128, 2}, {255, 1}, {1, 255}, {255, 255}} {
		for _, count := range []int{int(size[0]) * int(size[1]), 0, 1} {
			wantNoStored(t, "a size that is not valid", storedAs(size[0], size[1], make([]uint32, count)...))
		}
	}
	// As many greys as another size of as many cells is another picture.
	for _, size := range [][2]byte{{6, 1}, {1, 6}, {3, 2}, {2, 3}} {
		p, ok := impl.LoadPicture(storedAs(size[0], size[1], 1, 2, 3, 4, 5, 6))
		wantPicture(t, "LoadPicture of six greys", p, ok, pictureAt(int64(size[0]), 1, 2, 3, 4, 5, 6))
	}
	for _, size := range [][2]byte{{5, 1}, {1, 5}, {7, 1}, {4, 2}, {2, 2}, {6, 2}, {6, 6}} {
		wantNoStored(t, "six greys of another size", storedAs(size[0], size[1], 1, 2, 3, 4, 5, 6))
	}
}

// Pictures that are cut, or longer than told, are refused, and a byte that is
// another one tells another picture or none.
func TestStoredPicturesThatAreChanged(t *testing.T) {
	for _, p := range []impl.Picture{pictureOf(1, 1), pictureAt(2, 0, bitsNull, nanBits, bitsInf), counted(3, 2), made(madeSpecial, 5, 4, 3)} {
		s := storedOf(p)
		for cut := range len(s) {
			wantNoStored(t, "a picture that is cut", s[:cut])
			wantNoStored(t, "a picture that is cut before", s[cut+1:])
			wantNoStored(t, "a picture with a byte less", s[:cut]+s[cut+1:])
			wantNoStored(t, "a picture with a byte more", s[:cut]+"\x00"+s[cut:])
		}
		for count := 1; count <= 8; count++ {
			wantNoStored(t, "a picture that is longer", s+strings.Repeat("\x00", count))
		}
		wantNoStored(t, "a picture twice", s+s)
		for k := range len(s) {
			for other := range 256 {
				if byte(other) == s[k] {
					continue
				}
				text := s[:k] + string([]byte{byte(other)}) + s[k+1:]
				q, ok := impl.LoadPicture(text)
				if !ok {
					wantNoPicture(t, "LoadPicture of a changed byte", q, ok)
					continue
				}
				want(t, "changed byte is one of a grey", k >= 6, true)
				want(t, "bytes of what is loaded", strconv.Quote(storedOf(q)), strconv.Quote(text))
				want(t, "picture is another one", textOfPicture(p) == textOfPicture(q), false)
			}
		}
	}
}

// Whether a byte of a grey that is another one is refused depends on its bits
// alone: all but those of most not-a-numbers are told.
func TestLoadPictureOfAllBits(t *testing.T) {
	for i := range 65536 {
		bits := wideBits(i)
		p, ok := impl.LoadPicture(storedAs(1, 2, bitsOne, bits))
		if x := at(bits); x != x && bits != nanBits {
			wantNoPicture(t, fmt.Sprintf("LoadPicture of %08x", bits), p, ok)
			continue
		}
		wantPicture(t, fmt.Sprintf("LoadPicture of %08x", bits), p, ok, pictureAt(1, bitsOne, bits))
	}
}
