package tests

import (
	"fmt"
	"math"
	"slices"
	"strings"
	"testing"

	"loop.example/g01223/impl"
)

// tilesAs returns the tiles with so many rows, one after another.
func tilesAs(counts ...int64) []impl.Tile {
	var tiles []impl.Tile
	from := int64(0)
	for _, count := range counts {
		tiles = append(tiles, impl.Tile{From: from, Count: count})
		from += count
	}
	return tiles
}

func TestTilesOf(t *testing.T) {
	for _, c := range []struct {
		high, workers int64
		wanted        []int64
	}{
		{5, 2, []int64{3, 2}},
		{5, 1, []int64{5}},
		{5, 3, []int64{2, 2, 1}},
		{5, 4, []int64{2, 1, 1, 1}},
		{5, 5, []int64{1, 1, 1, 1, 1}},
		{5, 6, []int64{1, 1, 1, 1, 1}},
		{5, 8, []int64{1, 1, 1, 1, 1}},
		{1, 1, []int64{1}},
		{1, 8, []int64{1}},
		{7, 8, []int64{1, 1, 1, 1, 1, 1, 1}},
		{8, 8, []int64{1, 1, 1, 1, 1, 1, 1, 1}},
		{9, 8, []int64{2, 1, 1, 1, 1, 1, 1, 1}},
		{15, 8, []int64{2, 2, 2, 2, 2, 2, 2, 1}},
		{24, 1, []int64{24}},
		{24, 5, []int64{5, 5, 5, 5, 4}},
		{24, 7, []int64{4, 4, 4, 3, 3, 3, 3}},
		{24, 8, []int64{3, 3, 3, 3, 3, 3, 3, 3}},
	} {
		tiles, ok := impl.TilesOf(c.high, c.workers)
		want(t, "TilesOf succeeds", ok, true)
		want(t, fmt.Sprint("TilesOf ", c.high, " and ", c.workers), fmt.Sprint(tiles), fmt.Sprint(tilesAs(c.wanted...)))
	}
}

// Rows are dealt to workers in turn, so that each one has its number.
func TestTilesOfAllNumbers(t *testing.T) {
	for high := int64(1); high <= 24; high++ {
		for workers := int64(1); workers <= 8; workers++ {
			counts := make([]int64, workers)
			for row := range high {
				counts[row%workers]++
			}
			counts = slices.DeleteFunc(counts, func(n int64) bool { return n == 0 })
			tiles, ok := impl.TilesOf(high, workers)
			want(t, "TilesOf succeeds", ok, true)
			want(t, fmt.Sprint("TilesOf ", high, " and ", workers), fmt.Sprint(tiles), fmt.Sprint(tilesAs(counts...)))
		}
	}
	for _, high := range append(noPlacesOf(25), 0) {
		for _, workers := range []int64{1, 2, 8} {
			tiles, ok := impl.TilesOf(high, workers)
			wantNone(t, fmt.Sprint("TilesOf ", high), tiles, ok)
		}
	}
	for _, workers := range append(noPlacesOf(9), 0) {
		for _, high := range []int64{1, 5, 24} {
			tiles, ok := impl.TilesOf(high, workers)
			wantNone(t, fmt.Sprint("TilesOf with workers: ", workers), tiles, ok)
		}
	}
}

// edges are numbers that are no rows, and some that are.
var edges = []int64{
	math.MinInt64, math.MinInt64 + 1, -1 << 32, -25, -2, -1, 0, 1, 2, 3, 4, 5, 6, 24, 25, 1 << 32, 1 << 62,
	math.MaxInt64 - 4, math.MaxInt64 - 1, math.MaxInt64,
}

// Tiles are told by their rows.
func TestIsTile(t *testing.T) {
	for _, high := range []int64{1, 2, 3, 4, 24} {
		p := counted(2, high)
		for _, from := range edges {
			for _, count := range edges {
				tile := impl.Tile{From: from, Count: count}
				fits := false
				for first := range high {
					for last := first; last < high; last++ {
						fits = fits || from == first && count == last-first+1
					}
				}
				want(t, fmt.Sprint("IsTile of ", tile, " of rows: ", high), impl.IsTile(p, tile), fits)
				part, ok := impl.RowsOf(p, tile)
				if !fits {
					wantNoPicture(t, fmt.Sprint("RowsOf ", tile), part, ok)
				} else {
					wantPicture(t, fmt.Sprint("RowsOf ", tile), part, ok, pictureOf(2, p.Greys[2*from:2*(from+count)]...))
				}
				for reach := range int64(4) {
					halo, ok := impl.HaloOf(p, tile, reach)
					want(t, fmt.Sprint("HaloOf ", tile, " succeeds"), ok, fits)
					want(t, fmt.Sprint("halo of ", tile, " is a tile"), impl.IsTile(p, halo), fits)
					want(t, "halo of no tile", fits || halo == impl.Tile{}, true)
				}
				rows, ok := impl.JobRows(p, p, jobOf(impl.JobSize, 0, 1, true), tile)
				want(t, fmt.Sprint("JobRows of ", tile, " succeeds"), ok, fits)
				want(t, fmt.Sprint("JobRows of ", tile), fits && int64(len(rows)) == 2*count || !fits && len(rows) == 0, true)
			}
		}
	}
	for name, p := range invalidPictures() {
		for _, tile := range []impl.Tile{{Count: 1}, {}, {From: 1, Count: 1}, {Count: p.High}} {
			want(t, "IsTile of "+name, impl.IsTile(p, tile), false)
			halo, ok := impl.HaloOf(p, tile, 0)
			wantNone(t, "HaloOf of "+name, halo, ok)
			part, ok := impl.RowsOf(p, tile)
			wantNoPicture(t, "RowsOf of "+name, part, ok)
		}
	}
}

func TestHaloOf(t *testing.T) {
	p := counted(3, 10)
	for _, c := range []struct {
		from, count, reach int64
		wanted             impl.Tile
	}{
		{4, 2, 0, impl.Tile{From: 4, Count: 2}},
		{4, 2, 1, impl.Tile{From: 3, Count: 4}},
		{4, 2, 3, impl.Tile{From: 1, Count: 8}},
		{0, 1, 0, impl.Tile{Count: 1}},
		{0, 1, 1, impl.Tile{Count: 2}},
		{0, 1, 3, impl.Tile{Count: 4}},
		{1, 1, 1, impl.Tile{Count: 3}},
		{1, 1, 2, impl.Tile{Count: 4}},
		{2, 1, 3, impl.Tile{Count: 6}},
		{9, 1, 0, impl.Tile{From: 9, Count: 1}},
		{9, 1, 1, impl.Tile{From: 8, Count: 2}},
		{9, 1, 3, impl.Tile{From: 6, Count: 4}},
		{7, 2, 2, impl.Tile{From: 5, Count: 5}},
		{6, 1, 3, impl.Tile{From: 3, Count: 7}},
		{2, 6, 2, impl.Tile{Count: 10}},
		{2, 6, 3, impl.Tile{Count: 10}},
		{0, 10, 0, impl.Tile{Count: 10}},
		{0, 10, 3, impl.Tile{Count: 10}},
	} {
		halo, ok := impl.HaloOf(p, impl.Tile{From: c.from, Count: c.count}, c.reach)
		want(t, "HaloOf succeeds", ok, true)
		want(t, fmt.Sprint("HaloOf ", c.from, ", ", c.count, " and ", c.reach), halo, c.wanted)
	}
	for _, reach := range noReaches {
		halo, ok := impl.HaloOf(p, impl.Tile{From: 4, Count: 2}, reach)
		wantNone(t, fmt.Sprint("HaloOf with the reach ", reach), halo, ok)
	}
}

func TestRowsOf(t *testing.T) {
	p := pictureAt(2, 0, bitsNull, bitsOne, nanBits, bitsInf, bitsTwo)
	part, ok := impl.RowsOf(p, impl.Tile{Count: 3})
	wantPicture(t, "RowsOf all rows", part, ok, p)
	part, ok = impl.RowsOf(p, impl.Tile{Count: 1})
	wantPicture(t, "RowsOf the first row", part, ok, pictureAt(2, 0, bitsNull))
	part, ok = impl.RowsOf(p, impl.Tile{From: 1, Count: 2})
	wantPicture(t, "RowsOf the others", part, ok, pictureAt(2, bitsOne, nanBits, bitsInf, bitsTwo))
	part, ok = impl.RowsOf(p, impl.Tile{From: 2, Count: 1})
	wantPicture(t, "RowsOf the last row", part, ok, pictureAt(2, bitsInf, bitsTwo))
	part, ok = impl.RowsOf(p, impl.Tile{From: 2, Count: 2})
	wantNoPicture(t, "RowsOf a row too many", part, ok)
}

// The rows of all tiles, together, are the picture.
func TestRowsOfAllTiles(t *testing.T) {
	for i, size := range sizes() {
		p := made(i%madeKinds, size[0], size[1], i)
		for workers := int64(1); workers <= 8; workers++ {
			tiles, ok := impl.TilesOf(size[1], workers)
			want(t, "TilesOf succeeds", ok, true)
			var greys []float32
			for _, tile := range tiles {
				want(t, "IsTile", impl.IsTile(p, tile), true)
				part, ok := impl.RowsOf(p, tile)
				want(t, "RowsOf succeeds", ok && part.Wide == p.Wide && part.High == tile.Count, true)
				greys = append(greys, part.Greys...)
			}
			wantSamePicture(t, "rows of all tiles", impl.Picture{Wide: p.Wide, High: p.High, Greys: greys}, p)
		}
	}
}

func TestTileChecks(t *testing.T) {
	for _, c := range []struct {
		what    string
		m       impl.Map
		workers int64
		wanted  []int64
	}{
		{"the example", mapOf(2, 0, 1), 2, []int64{29776}},
		{"two rows of two workers", mapOf(1, 0, 1), 2, []int64{8330, 3875}},
		{"two rows of eight workers", mapOf(1, 0, 1), 8, []int64{8330, 3875}},
		{"two rows of one worker", mapOf(1, 0, 2), 1, []int64{50201}},
		{"a row with a hole", mapOf(2, 0, -1), 1, []int64{41183}},
		{"a row less than before", mapOf(1, 0, 2, 1), 2, []int64{50201, 3875}},
	} {
		checks, ok := impl.TileChecks(c.m, c.workers)
		wantList(t, "TileChecks of "+c.what, checks, ok, c.wanted...)
	}
	for name, m := range invalidMaps() {
		for _, workers := range []int64{1, 8} {
			checks, ok := impl.TileChecks(m, workers)
			wantNone(t, "TileChecks of "+name, checks, ok)
		}
	}
	for _, workers := range append(noPlacesOf(9), 0) {
		checks, ok := impl.TileChecks(mapOf(1, 0, 1), workers)
		wantNone(t, fmt.Sprint("TileChecks with workers: ", workers), checks, ok)
	}
}

// Each check number is that of the texts of the rows of its tile.
func TestTileChecksOfAllSizes(t *testing.T) {
	for i, size := range sizes() {
		m := patchyMap(i%patchyKinds, size[0], size[1], i)
		for workers := int64(1); workers <= 8; workers++ {
			tiles, _ := impl.TilesOf(size[1], workers)
			var wanted []int64
			for _, tile := range tiles {
				text := ""
				for y := tile.From; y < tile.From+tile.Count; y++ {
					var row []string
					for _, value := range m.Values[y*size[0] : (y+1)*size[0]] {
						row = append(row, fmt.Sprintf("%08x", bitsOf(value)))
					}
					text += strings.Join(row, ",")
				}
				wanted = append(wanted, checkNumber(text))
			}
			checks, ok := impl.TileChecks(m, workers)
			wantList(t, "TileChecks", checks, ok, wanted...)
		}
	}
}
