package tests

import (
	"fmt"
	"math"
	"slices"
	"testing"

	"loop.example/g01223/impl"
)

func TestValidAlbum(t *testing.T) {
	for count := range 9 {
		want(t, fmt.Sprint("ValidAlbum of pictures: ", count), impl.ValidAlbum(bound(pages(count)...)), true)
	}
	for _, count := range []int{9, 10, 16, 300} {
		want(t, fmt.Sprint("ValidAlbum of pictures: ", count), impl.ValidAlbum(bound(pages(count)...)), false)
	}
	want(t, "ValidAlbum of the greatest pictures", impl.ValidAlbum(bound(counted(16, 16), counted(24, 10), counted(10, 24))), true)
	for name, p := range invalidPictures() {
		for _, list := range [][]impl.Picture{{p}, {p, counted(1, 1)}, {counted(1, 1), p}, {counted(1, 1), p, counted(1, 1)}, append(pages(7), p)} {
			want(t, "ValidAlbum with "+name, impl.ValidAlbum(bound(list...)), false)
		}
	}
}

func TestSameAlbum(t *testing.T) {
	one, two := pictureOf(1, 1), pictureOf(2, 1, 2)
	for _, c := range []struct {
		what string
		a, b impl.Album
		same bool
	}{
		{"no pictures", impl.Album{}, impl.Album{}, true},
		{"nil and empty", impl.Album{}, impl.Album{Pictures: []impl.Picture{}}, true},
		{"an album and itself", bound(one, two), bound(pictureOf(1, 1), pictureOf(2, 1, 2)), true},
		{"as many as there can be", bound(pages(8)...), bound(pages(8)...), true},
		{"one picture more", bound(one, two), bound(one), false},
		{"another picture behind", bound(one, two), bound(one, one), false},
		{"another picture before", bound(two, one), bound(one, one), false},
		{"another order", bound(one, two), bound(two, one), false},
		{"a picture and none", bound(one), impl.Album{}, false},
		{"another grey", bound(one), bound(pictureOf(1, 2)), false},
		{"another form", bound(pictureOf(2, 1, 2)), bound(pictureOf(1, 1, 2)), false},
		{"zeros of both signs", bound(pictureAt(1, 0)), bound(pictureAt(1, bitsNull)), false},
		{"not-a-numbers", bound(pictureAt(1, nanBits)), bound(pictureAt(1, 0xff800001)), true},
		{"too many pictures", bound(pages(9)...), bound(pages(9)...), false},
		{"a picture that is not valid", bound(one, impl.Picture{}), bound(one, impl.Picture{}), false},
		{"a picture that is not valid in one", bound(one), bound(one, impl.Picture{}), false},
	} {
		want(t, "SameAlbum of "+c.what, impl.SameAlbum(c.a, c.b), c.same)
		want(t, "SameAlbum of "+c.what+", exchanged", impl.SameAlbum(c.b, c.a), c.same)
	}
	for name, p := range invalidPictures() {
		want(t, "SameAlbum with "+name, impl.SameAlbum(bound(p), bound(p)), false)
	}
}

func TestAddPicture(t *testing.T) {
	list := pages(8)
	a, ok := impl.Album{}, true
	for i, p := range list {
		a, ok = impl.AddPicture(a, p)
		wantAlbum(t, "AddPicture", a, ok, list[:i+1]...)
	}
	more, ok := impl.AddPicture(a, pictureOf(1, 1))
	wantNone(t, "AddPicture to a full album", more, ok)
	for _, bad := range []impl.Album{bound(pages(9)...), bound(pages(30)...), bound(impl.Picture{}), bound(pictureOf(1, 1), impl.Picture{Wide: 1, High: 1})} {
		more, ok := impl.AddPicture(bad, pictureOf(1, 1))
		wantNone(t, "AddPicture to an album that is not valid", more, ok)
	}
	for name, p := range invalidPictures() {
		for _, count := range []int{0, 1, 7, 8} {
			more, ok := impl.AddPicture(bound(pages(count)...), p)
			wantNone(t, "AddPicture of "+name, more, ok)
		}
	}
}

func TestSliceAlbum(t *testing.T) {
	numbers := []int64{math.MinInt64, math.MinInt64 + 1, -9, -1, 0, 1, 2, 3, 4, 5, 6, 7, 8, 9, 1 << 32, 1 << 62, math.MaxInt64 - 8, math.MaxInt64}
	for _, have := range []int64{0, 1, 2, 5, 8} {
		list := pages(int(have))
		for _, from := range numbers {
			for _, count := range numbers {
				a, ok := impl.SliceAlbum(bound(list...), from, count)
				what := fmt.Sprint("SliceAlbum of pictures: ", have, ", from ", from, " on: ", count)
				fits := from >= 0 && from <= have && count >= 0 && count <= have-from
				if fits {
					wantAlbum(t, what, a, ok, list[from:from+count]...)
				} else {
					wantNone(t, what, a, ok)
				}
			}
		}
	}
	for _, bad := range []impl.Album{bound(pages(9)...), bound(pictureOf(1, 1), impl.Picture{}), bound(impl.Picture{}, pictureOf(1, 1))} {
		for from := range int64(3) {
			for count := range int64(3) {
				a, ok := impl.SliceAlbum(bad, from, count)
				wantNone(t, "SliceAlbum of an album that is not valid", a, ok)
			}
		}
	}
}

func TestStoreAlbum(t *testing.T) {
	one, two := pictureOf(1, 1), pictureOf(2, -2, 0.5)
	// The check numbers are 33526, 64630 and 51511. That of the last picture
	// alone would be 36054.
	first := "EYE1\x01\x01\x00\x00\x80\x3f\xf6\x82"
	for _, c := range []struct {
		what   string
		a      impl.Album
		wanted string
	}{
		{"no pictures", impl.Album{}, ""},
		{"one picture", bound(one), first},
		{"one picture twice", bound(one, one), first + "EYE1\x01\x01\x00\x00\x80\x3f\x76\xfc"},
		{"two pictures", bound(one, two), first + "EYE1\x02\x01\x00\x00\x00\xc0\x00\x00\x00\x3f\x37\xc9"},
	} {
		s, ok := impl.StoreAlbum(c.a)
		wantText(t, "StoreAlbum of "+c.what, s, ok, c.wanted)
		a, ok := impl.LoadAlbum(c.wanted)
		wantAlbum(t, "LoadAlbum of "+c.what, a, ok, c.a.Pictures...)
	}
	for _, bad := range []impl.Album{bound(pages(9)...), bound(impl.Picture{}), bound(one, impl.Picture{Wide: 1, High: 1})} {
		s, ok := impl.StoreAlbum(bad)
		wantNone(t, "StoreAlbum of an album that is not valid", s, ok)
	}
	for name, p := range invalidPictures() {
		s, ok := impl.StoreAlbum(bound(one, p))
		wantNone(t, "StoreAlbum of "+name, s, ok)
	}
}

// Albums are loaded as they are stored, for all numbers of pictures and for all
// sizes.
func TestStoreAlbumThereAndBack(t *testing.T) {
	all := sizes()
	for i, size := range all {
		var list []impl.Picture
		for k := range i % 9 {
			other := all[(i*7+k*101)%len(all)]
			list = append(list, made(k%madeKinds, other[0], other[1], i+k))
		}
		if len(list) > 0 {
			list[0] = made(i%madeKinds, size[0], size[1], i)
		}
		s, ok := impl.StoreAlbum(bound(list...))
		wanted, ends := albumBytes(list...)
		wantText(t, "StoreAlbum", s, ok, wanted)
		a, ok := impl.LoadAlbum(s)
		wantAlbum(t, "LoadAlbum of StoreAlbum", a, ok, list...)
		want(t, "SameAlbum", impl.SameAlbum(a, bound(list...)), true)
		wantRecovered(t, "a whole album", s, len(s), list...)
		// A part of the greatest ones at each of the borders, and beside it.
		for count, end := range ends {
			wantRecovered(t, "some pictures", s[:end], end, list[:count]...)
			if count < len(list) {
				wantRecovered(t, "some pictures and a byte", s[:end+1], end, list[:count]...)
				wantRecovered(t, "some pictures but a byte", s[:ends[count+1]-1], end, list[:count]...)
			}
		}
	}
}

func TestRecoverAlbumOfTextsOfNoAlbum(t *testing.T) {
	good, ends := albumBytes(pages(3)...)
	for _, s := range []string{"x", "E", "EYE1", "EYE1\x01\x01", "EYE1\x01\x01\x00\x00\x80\x3f", "EYE1\x01\x01\x00\x00\x80\x3f\xf6", "EYE1\x01\x01\x00\x00\x80\x3f\x82\xf6", "EYE1\x18\x18", "EYE1\x00\x00", checked("EYE1\x00\x00"), checked("EYE1"), checked(""), checked(storedAs(1, 1, 0xff800001)), checked(storedAs(25, 1, make([]uint32, 25)...)), checked(storedAs(24, 11, make([]uint32, 264)...)), "\x00", "\n", " " + good, good[1:], good[2:], good[ends[1]:]} {
		wantRecovered(t, "a text of no album", s, 0)
		wantNotLoaded(t, "a text of no album", s)
		if len(s) > 0 && s[0] != ' ' {
			wantRecovered(t, "pictures and a text of no album", good+s, len(good), pages(3)...)
			wantNotLoaded(t, "pictures and a text of no album", good+s)
		}
	}
	wantRecovered(t, "nothing", "", 0)
	a, ok := impl.LoadAlbum("")
	wantAlbum(t, "LoadAlbum of nothing", a, ok)
}

// An album has no more than eight pictures, also if there are more.
func TestRecoverAlbumOfTooManyPictures(t *testing.T) {
	list := pages(12)
	for count := 9; count <= 12; count++ {
		s, ends := albumBytes(list[:count]...)
		wantRecovered(t, "too many pictures", s, ends[8], list[:8]...)
		wantNotLoaded(t, "too many pictures", s)
		a, ok := impl.LoadAlbum(s[:ends[8]])
		wantAlbum(t, "LoadAlbum of as many pictures as there can be", a, ok, list[:8]...)
		wantRecovered(t, "as many pictures as there can be and a byte", s[:ends[8]+1], ends[8], list[:8]...)
		wantNotLoaded(t, "as many pictures as there can be and a byte", s[:ends[8]+1])
	}
}

// A picture that stands at another place in an album has another check number.
func TestPicturesThatAreMoved(t *testing.T) {
	list := pages(4)
	s, ends := albumBytes(list...)
	part := func(i int) string { return s[ends[i]:ends[i+1]] }
	wantRecovered(t, "pictures in another order", part(0)+part(2)+part(1)+part(3), ends[1], list[0])
	wantRecovered(t, "a picture twice", part(0)+part(1)+part(1)+part(2), ends[2], list[:2]...)
	wantRecovered(t, "a picture left out", part(0)+part(1)+part(3), ends[2], list[:2]...)
	wantRecovered(t, "pictures without the first one", part(1)+part(2), 0)
	wantRecovered(t, "pictures that are checked on their own", checked(storedOf(list[0]))+checked(storedOf(list[1])), ends[1], list[0])
	for _, text := range []string{part(0) + part(2) + part(1) + part(3), part(0) + part(1) + part(1), part(1) + part(2), part(0) + part(1) + part(3)} {
		wantNotLoaded(t, "pictures that are moved", text)
	}
	// The first picture may be another one, if its check number is its own.
	text := checked(storedOf(list[2]))
	wantRecovered(t, "another first picture", text+part(1), len(text), list[2])
}

// Albums that are cut are recovered up to the last picture that is whole.
func TestAlbumsThatAreCut(t *testing.T) {
	for _, list := range [][]impl.Picture{pages(1), pages(3), pages(8), {counted(24, 10), pictureOf(1, 1), counted(3, 2)}} {
		s, ends := albumBytes(list...)
		whole := 0
		for cut := range len(s) + 1 {
			if whole < len(list) && cut == ends[whole+1] {
				whole++
			}
			wantRecovered(t, fmt.Sprint("an album that is cut at ", cut), s[:cut], ends[whole], list[:whole]...)
			if cut == ends[whole] {
				a, ok := impl.LoadAlbum(s[:cut])
				wantAlbum(t, "LoadAlbum of an album that is cut between pictures", a, ok, list[:whole]...)
			} else {
				wantNotLoaded(t, fmt.Sprint("an album that is cut at ", cut), s[:cut])
			}
		}
		for cut := 1; cut < len(s); cut++ {
			if !slices.Contains(ends, cut) {
				wantRecovered(t, "an album that is cut before", s[cut:], 0)
			}
		}
	}
}

// Albums in which a byte is another one, in a picture or in a check number, are
// recovered up to the picture before.
func TestAlbumsThatAreChanged(t *testing.T) {
	list := []impl.Picture{pictureOf(2, 1, 2), pictureAt(1, nanBits), pictureAt(1, 0, bitsNull, bitsInf), pictureOf(1, 0.5)}
	s, ends := albumBytes(list...)
	for count := range list {
		for k := ends[count]; k < ends[count+1]; k++ {
			for other := range 256 {
				if byte(other) == s[k] {
					continue
				}
				text := s[:k] + string([]byte{byte(other)}) + s[k+1:]
				wantRecovered(t, fmt.Sprint("an album whose byte ", k, " is ", other), text, ends[count], list[:count]...)
				wantNotLoaded(t, fmt.Sprint("an album whose byte ", k, " is ", other), text)
			}
			wantRecovered(t, "an album with a byte less", s[:k]+s[k+1:], ends[count], list[:count]...)
			wantRecovered(t, "an album with a byte more", s[:k]+"\x07"+s[k:], ends[count], list[:count]...)
		}
	}
}
