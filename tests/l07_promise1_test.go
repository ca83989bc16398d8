package tests

import (
	"fmt"
	"math"
	"slices"
	"strings"
	"testing"

	"loop.example/g01223/impl"
)

// The tests of this file check promise 1 for chapter 7: every function returns
// for all arguments, modifies no argument, and returns equal results for equal
// arguments.

// jobCalls are functions of two pictures and a job.
func jobCalls() map[string]func(left, right impl.Picture, j impl.Job) (any, bool) {
	type picture = impl.Picture
	return map[string]func(a, b picture, j impl.Job) (any, bool){
		"JobVolume":           func(a, b picture, j impl.Job) (any, bool) { return impl.JobVolume(a, b, j) },
		"JobMap":              func(a, b picture, j impl.Job) (any, bool) { return impl.JobMap(a, b, j) },
		"JobRows of one row":  func(a, b picture, j impl.Job) (any, bool) { return impl.JobRows(a, b, j, impl.Tile{Count: 1}) },
		"JobRows of all rows": func(a, b picture, j impl.Job) (any, bool) { return impl.JobRows(a, b, j, impl.Tile{Count: a.High}) },
		"JobRows of no tile": func(a, b picture, j impl.Job) (any, bool) {
			return impl.JobRows(a, b, j, impl.Tile{From: a.High, Count: 1})
		},
		"JobShared of nobody":   func(a, b picture, j impl.Job) (any, bool) { return impl.JobShared(a, b, j, 0) },
		"JobShared of one":      func(a, b picture, j impl.Job) (any, bool) { return impl.JobShared(a, b, j, 1) },
		"JobShared of three":    func(a, b picture, j impl.Job) (any, bool) { return impl.JobShared(a, b, j, 3) },
		"JobShared of many":     func(a, b picture, j impl.Job) (any, bool) { return impl.JobShared(a, b, j, 8) },
		"JobShared of too many": func(a, b picture, j impl.Job) (any, bool) { return impl.JobShared(a, b, j, 9) },
	}
}

// keptCalls are functions of a picture or a map.
func keptCalls() []pictureCall {
	type picture = impl.Picture
	return []pictureCall{
		{"HaloOf", func(p picture) (any, bool) { return impl.HaloOf(p, impl.Tile{Count: 1}, 1) }},
		{"RowsOf one row", func(p picture) (any, bool) { return impl.RowsOf(p, impl.Tile{Count: 1}) }},
		{"RowsOf all rows", func(p picture) (any, bool) { return impl.RowsOf(p, impl.Tile{Count: p.High}) }},
		{"TileChecks", func(p picture) (any, bool) { return impl.TileChecks(asMap(p), 3) }},
		{"GreyBytes", func(p picture) (any, bool) { return impl.GreyBytes(p) }},
		{"PackMap", func(p picture) (any, bool) { return impl.PackMap(asMap(p)) }},
		{"PackMap of places", func(p picture) (any, bool) {
			m, _ := impl.RoundMap(asMap(p))
			return impl.PackMap(m)
		}},
		{"StorePicture", func(p picture) (any, bool) { return impl.StorePicture(p) }},
		{"AddPicture", func(p picture) (any, bool) { return impl.AddPicture(impl.Album{}, p) }},
		{"AddPicture to others", func(p picture) (any, bool) { return impl.AddPicture(bound(p, p), p) }},
		{"SliceAlbum", func(p picture) (any, bool) { return impl.SliceAlbum(bound(p, p, p), 1, 2) }},
		{"StoreAlbum", func(p picture) (any, bool) { return impl.StoreAlbum(bound(p, p)) }},
	}
}

func TestWorkFailsForInvalidPictures(t *testing.T) {
	for name, p := range invalidPictures() {
		for _, f := range keptCalls() {
			result, ok := f.call(p)
			wantNone(t, f.name+" with a picture that is not valid: "+name, result, ok)
		}
		want(t, "SameAlbum: "+name, impl.SameAlbum(bound(p), bound(p)), false)
	}
}

func TestPicturesOfWorkAreNotModified(t *testing.T) {
	for i, size := range sizes() {
		kind := i % madeKinds
		a, arrayA := spacious(made(kind, size[0], size[1], i))
		b, arrayB := spacious(made(kind, size[0], size[1], i+1))
		for name, f := range jobCalls() {
			j := madeJob(i)
			wantPure(t, name+" of the left picture", arrayA, func() (any, bool) { return f(a, b, j) })
			wantPure(t, name+" of the right picture", arrayB, func() (any, bool) { return f(a, b, j) })
			wantPure(t, name+" of one picture", arrayA, func() (any, bool) { return f(a, a, j) })
		}
		for _, f := range keptCalls() {
			wantPure(t, f.name, arrayA, func() (any, bool) { return f.call(a) })
			exact := impl.Picture{Wide: a.Wide, High: a.High, Greys: slices.Clip(slices.Clone(a.Greys))}
			x, okX := f.call(a)
			y, okY := f.call(exact)
			want(t, f.name+" with other capacities", textOfResult(y, okY), textOfResult(x, okX))
		}
	}
}

// The bits of a not-a-number do not matter.
func TestNotANumbersOfWorkAreOneValue(t *testing.T) {
	for i, size := range sizes() {
		p, q := made(madeSpecial, size[0], size[1], i), made(madeEven, size[0], size[1], i)
		n := p
		n.Greys = otherNotANumbers(p.Greys)
		for name, f := range jobCalls() {
			for _, solve := range []bool{false, true} {
				j := jobOf(int64(i%2), int64(i%4), int64(1+i%8), solve)
				a, okA := f(p, q, j)
				b, okB := f(n, q, j)
				want(t, name, textOfResult(b, okB), textOfResult(a, okA))
			}
		}
		for _, f := range keptCalls() {
			a, okA := f.call(p)
			b, okB := f.call(n)
			want(t, f.name, textOfResult(b, okB), textOfResult(a, okA))
		}
		want(t, "SameAlbum", impl.SameAlbum(bound(p, q), bound(n, q)), true)
	}
}

// albumCalls are functions of an album.
func albumCalls() map[string]func(a impl.Album) (any, bool) {
	type album = impl.Album
	return map[string]func(a album) (any, bool){
		"AddPicture":             func(a album) (any, bool) { return impl.AddPicture(a, counted(2, 2)) },
		"AddPicture that is bad": func(a album) (any, bool) { return impl.AddPicture(a, impl.Picture{}) },
		"SliceAlbum of none":     func(a album) (any, bool) { return impl.SliceAlbum(a, 0, 0) },
		"SliceAlbum of one":      func(a album) (any, bool) { return impl.SliceAlbum(a, 0, 1) },
		"SliceAlbum of all":      func(a album) (any, bool) { return impl.SliceAlbum(a, 0, int64(len(a.Pictures))) },
		"SliceAlbum of the rest": func(a album) (any, bool) { return impl.SliceAlbum(a, 1, int64(len(a.Pictures))-1) },
		"StoreAlbum":             func(a album) (any, bool) { return impl.StoreAlbum(a) },
	}
}

func TestAlbumsAreNotModified(t *testing.T) {
	for count := range 11 {
		list := pages(count + 3)
		var arrays [][]float32
		for i := range list {
			var array []float32
			list[i], array = spacious(list[i])
			arrays = append(arrays, array)
		}
		a := impl.Album{Pictures: list[:count]} // with room for three more
		kept := textOfAlbum(impl.Album{Pictures: list}) + fmt.Sprint(arrays)
		for name, f := range albumCalls() {
			first, ok := f(a)
			text := textOfResult(first, ok)
			overwrite(first)
			second, okAgain := f(a)
			want(t, name+" after its result is overwritten", textOfResult(second, okAgain), text)
			exact, okExact := f(bound(pages(count)...))
			want(t, name+" with other capacities", textOfResult(exact, okExact), text)
			want(t, name+" leaves the album as it is", textOfAlbum(impl.Album{Pictures: list})+fmt.Sprint(arrays), kept)
		}
		want(t, "ValidAlbum", impl.ValidAlbum(a), count <= 8)
		want(t, "SameAlbum", impl.SameAlbum(a, a), count <= 8)
		want(t, "album is as it was", textOfAlbum(impl.Album{Pictures: list})+fmt.Sprint(arrays), kept)
	}
}

// No picture of an album shares memory with another one, also if one picture
// stands there twice.
func TestPicturesOfAlbumsAreNotShared(t *testing.T) {
	p := counted(3, 2)
	twice, _ := albumBytes(p, p, p)
	for name, call := range map[string]func() (impl.Album, bool){
		"AddPicture":   func() (impl.Album, bool) { return impl.AddPicture(bound(p, p), p) },
		"SliceAlbum":   func() (impl.Album, bool) { return impl.SliceAlbum(bound(p, p, p), 0, 3) },
		"LoadAlbum":    func() (impl.Album, bool) { return impl.LoadAlbum(twice) },
		"RecoverAlbum": func() (impl.Album, bool) { a, _, ok := impl.RecoverAlbum(twice + "x"); return a, ok },
	} {
		a, ok := call()
		wantAlbum(t, name, a, ok, p, p, p)
		for i := range a.Pictures {
			fillUp(a.Pictures[i].Greys)
			for k := i + 1; k < len(a.Pictures); k++ {
				wantSamePicture(t, name+": picture behind one that is overwritten", a.Pictures[k], counted(3, 2))
			}
		}
		wantSamePicture(t, name+": picture is as it was", p, counted(3, 2))
	}
}

// textCalls are functions of a text.
func textCalls() map[string]func(s string) (any, bool) {
	return map[string]func(s string) (any, bool){
		"GreyPicture":  func(s string) (any, bool) { return impl.GreyPicture(s, 3, 2) },
		"UnpackMap":    func(s string) (any, bool) { return impl.UnpackMap(s, 3, 2) },
		"LoadPicture":  func(s string) (any, bool) { return impl.LoadPicture(s) },
		"LoadAlbum":    func(s string) (any, bool) { return impl.LoadAlbum(s) },
		"RecoverAlbum": func(s string) (any, bool) { a, n, ok := impl.RecoverAlbum(s); return recovered{a, n}, ok },
	}
}

func TestTextsOfWorkAreReadAlike(t *testing.T) {
	album, _ := albumBytes(pages(4)...)
	list := []string{"", "x", "\x00", "\x03\x05\x02\x01\x01\x09", "\x01\x02\x03\x04\x05\x06", storedOf(counted(3, 2)), album, album + "x", album[:40], strings.Repeat(album, 4), strings.Repeat("EYE1", 5000), strings.Repeat("\x01", 100001), strings.Repeat("\xff", 65536)}
	for _, s := range list {
		for name, f := range textCalls() {
			first, ok := f(s)
			text := textOfResult(first, ok)
			overwrite(first)
			second, okAgain := f(s)
			want(t, name+" after its result is overwritten", textOfResult(second, okAgain), text)
			want(t, name+" without a result", ok || text == textOfResult(noneOf(first), false), true)
		}
	}
}

func TestListsOfWorkAreNewMemory(t *testing.T) {
	for name, call := range map[string]func() (any, bool){
		"TilesOf":    func() (any, bool) { return impl.TilesOf(5, 2) },
		"TileChecks": func() (any, bool) { return impl.TileChecks(mapOf(1, 0, 1), 2) },
		"JobRows": func() (any, bool) {
			return impl.JobRows(exampleLeft(), exampleRight(), jobOf(0, 0, 2, false), impl.Tile{Count: 1})
		},
	} {
		wantPure(t, name, nil, call)
	}
}

// Numbers at the limits of 64-bit integers are refused as others are.
func TestWorkAtTheLimits(t *testing.T) {
	p := counted(3, 2)
	limits := []int64{math.MinInt64, math.MinInt64 + 1, -1, 9, math.MaxInt64 - 1, math.MaxInt64}
	for _, a := range limits {
		tiles, ok := impl.TilesOf(2, a)
		wantNone(t, "TilesOf", tiles, ok)
		checks, ok := impl.TileChecks(asMap(p), a)
		wantNone(t, "TileChecks", checks, ok)
		m, ok := impl.JobShared(p, p, jobOf(0, 0, 1, false), a)
		wantNoMap(t, "JobShared", m, ok)
		for _, b := range limits {
			tiles, ok = impl.TilesOf(a, b)
			wantNone(t, "TilesOf", tiles, ok)
			tile := impl.Tile{From: a, Count: b}
			want(t, "IsTile", impl.IsTile(p, tile), false)
			halo, ok := impl.HaloOf(p, tile, 3)
			wantNone(t, "HaloOf", halo, ok)
			rows, ok := impl.JobRows(p, p, jobOf(0, 3, 1, false), tile)
			want(t, "JobRows", ok || len(rows) > 0, false)
			q, ok := impl.GreyPicture("\x00\x01\x02\x03", a, b)
			wantNoPicture(t, "GreyPicture", q, ok)
			m, ok = impl.UnpackMap("\x01\x02", a, b)
			wantNoMap(t, "UnpackMap", m, ok)
			album, ok := impl.SliceAlbum(bound(p), a, b)
			wantNone(t, "SliceAlbum", album, ok)
		}
	}
}
