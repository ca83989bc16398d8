package tests

import (
	"encoding/binary"
	"fmt"
	"math"
	"strconv"
	"testing"

	"loop.example/g01223/impl"
)

// recovered is what RecoverAlbum returns.
type recovered struct {
	album impl.Album
	size  int64
}

func textOfAlbum(a impl.Album) string {
	text := fmt.Sprint(len(a.Pictures), " pictures: ")
	for _, p := range a.Pictures {
		text += textOfPicture(p) + "; "
	}
	return text
}

// textOfWork tells the results of this chapter.
func textOfWork(result any) string {
	switch r := result.(type) {
	case string:
		return strconv.Quote(r)
	case impl.Album:
		return textOfAlbum(r)
	case recovered:
		return fmt.Sprint(textOfAlbum(r.album), r.size)
	}
	return fmt.Sprint(result)
}

// noneOfWork returns what functions of this chapter return that fail.
func noneOfWork(result any) any {
	switch result.(type) {
	case string:
		return ""
	case impl.Tile:
		return impl.Tile{}
	case []impl.Tile:
		return []impl.Tile{}
	case impl.Album:
		return impl.Album{}
	}
	return int64(0)
}

// overwriteWork changes all numbers of a result of this chapter.
func overwriteWork(result any) {
	switch r := result.(type) {
	case []impl.Tile:
		r = r[:cap(r)]
		for i := range r {
			r[i] = impl.Tile{From: 99, Count: 99}
		}
	case impl.Album:
		overwriteAlbum(r)
	case recovered:
		overwriteAlbum(r.album)
	}
}

func overwriteAlbum(a impl.Album) {
	for i := range a.Pictures {
		fillUp(a.Pictures[i].Greys)
	}
	list := a.Pictures[:cap(a.Pictures)]
	for i := range list {
		list[i] = pictureOf(1, 99)
	}
}

// wantText checks a text that a function returns.
func wantText(t *testing.T, what, got string, ok bool, wanted string) {
	t.Helper()
	want(t, what+" succeeds", ok, true)
	want(t, what, strconv.Quote(got), strconv.Quote(wanted))
}

// wantAlbum checks a result of a function that succeeds.
func wantAlbum(t *testing.T, what string, got impl.Album, ok bool, wanted ...impl.Picture) {
	t.Helper()
	want(t, what+" succeeds", ok, true)
	want(t, what, textOfAlbum(got), textOfAlbum(impl.Album{Pictures: wanted}))
}

// wantRecovered checks what is recovered.
func wantRecovered(t *testing.T, what, s string, size int, wanted ...impl.Picture) {
	t.Helper()
	a, n, ok := impl.RecoverAlbum(s)
	wantAlbum(t, "RecoverAlbum of "+what, a, ok, wanted...)
	want(t, "bytes of RecoverAlbum of "+what, n, int64(size))
}

// wantNotLoaded checks that no album is stored so.
func wantNotLoaded(t *testing.T, what, s string) {
	t.Helper()
	a, ok := impl.LoadAlbum(s)
	wantNone(t, "LoadAlbum of "+what, a, ok)
}

// checkNumber tells the check number of a text without the functions under test.
func checkNumber(s string) int64 {
	check := int64(0)
	for i := range len(s) {
		check = (727*check + int64(s[i]) + 59) % 65003
	}
	return check
}

// storedAs tells the bytes of a picture without the functions under test, but
// with these sides and the bits of greys as they are.
func storedAs(wide, high byte, bits ...uint32) string {
	stored := []byte{'E', 'Y', 'E', '1', wide, high}
	for _, b := range bits {
		stored = binary.LittleEndian.AppendUint32(stored, b)
	}
	return string(stored)
}

func storedOf(p impl.Picture) string {
	return storedAs(byte(p.Wide), byte(p.High), bitsOfList(p.Greys)...)
}

// checked tells s with the check number behind it.
func checked(s string) string {
	return string(binary.LittleEndian.AppendUint16([]byte(s), uint16(checkNumber(s))))
}

// albumBytes tells the bytes of an album, and how many of them there are before
// each picture, and in all.
func albumBytes(pictures ...impl.Picture) (string, []int) {
	s, ends := "", []int{0}
	for _, p := range pictures {
		s = checked(s + storedOf(p))
		ends = append(ends, len(s))
	}
	return s, ends
}

// pages returns pictures of different sizes.
func pages(count int) []impl.Picture {
	var list []impl.Picture
	for i := range count {
		list = append(list, made(i%madeKinds, int64(1+i%3), int64(1+i/2%2), 31*i))
	}
	return list
}

// bound returns an album of these pictures with no unused capacity.
func bound(pictures ...impl.Picture) impl.Album {
	return impl.Album{Pictures: pictures[:len(pictures):len(pictures)]}
}

// jobKinds are those of jobs.
var jobKinds = []int64{impl.JobSquare, impl.JobSize}

// jobOf returns a job with the prices 1 and 2.
func jobOf(kind, reach, deep int64, solve bool) impl.Job {
	return impl.Job{Kind: kind, Reach: reach, Deep: deep, Solve: solve, Prices: impl.Prices{One: 1, More: 2}}
}

// priced returns a job with other prices, which solves rows.
func priced(j impl.Job, one, more float32) impl.Job {
	j.Solve, j.Prices = true, impl.Prices{One: one, More: more}
	return j
}

// madeJob makes a valid job.
func madeJob(seed int) impl.Job {
	m := maker{seed: uint32(seed)}
	return impl.Job{
		Kind:   int64(m.next() % 2),
		Reach:  int64(m.next() % 4),
		Deep:   int64(1 + m.next()%8),
		Solve:  m.next()%2 == 0,
		Prices: m.prices(madeEven),
	}
}

// invalidJobs returns jobs that are not valid.
func invalidJobs() map[string]impl.Job {
	list := map[string]impl.Job{"zero": {}}
	for _, solve := range []bool{false, true} {
		for _, kind := range noPlacesOf(2) {
			list[fmt.Sprint("the kind ", kind, solve)] = jobOf(kind, 0, 1, solve)
		}
		for _, reach := range noReaches {
			list[fmt.Sprint("the reach ", reach, solve)] = jobOf(impl.JobSquare, reach, 1, solve)
		}
		for _, deep := range noDepths {
			list[fmt.Sprint("the depth ", deep, solve)] = jobOf(impl.JobSize, 0, deep, solve)
		}
		for name, p := range invalidPrices() {
			list[fmt.Sprint("prices: ", name, solve)] = impl.Job{Deep: 1, Solve: solve, Prices: p}
		}
	}
	return list
}

// noPlacesOf returns numbers that are not from 0 to count - 1.
func noPlacesOf(count int64) []int64 {
	return []int64{-1, count, count + 1, -1 - count, math.MinInt64, math.MaxInt64, 1 << 32, -1 << 32, math.MaxInt64 - count, math.MinInt64 + count}
}

// noSizes are sizes that no picture has.
var noSizes = [][2]int64{
	{0, 0}, {0, 1}, {1, 0}, {-1, -1}, {-1, 1}, {1, -1}, {25, 1}, {1, 25}, {24, 11}, {16, 17}, {17, 16}, {256, 1},
	{1 << 32, 1 << 32}, {1<<62 + 1, 4}, {4, 1<<62 + 1}, {math.MinInt64, math.MinInt64}, {math.MaxInt64, math.MaxInt64}, {math.MinInt64, 1}, {1, math.MaxInt64},
}
