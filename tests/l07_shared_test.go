package tests

import (
	"fmt"
	"runtime"
	"sync"
	"testing"
	"time"

	"loop.example/g01223/impl"
)

// rowsOfMap returns the values of the rows of a tile, without the functions
// under test.
func rowsOfMap(m impl.Map, tile impl.Tile) []float32 {
	return m.Values[m.Wide*tile.From : m.Wide*(tile.From+tile.Count)]
}

// Any number of workers finds what one finds, or fails where one fails.
func TestJobSharedIsJobMap(t *testing.T) {
	for kind := range madeKinds {
		t.Run(fmt.Sprint("kind ", kind), func(t *testing.T) {
			t.Parallel()
			for i, size := range sizes() {
				p, q := made(kind, size[0], size[1], i+7), made(kind, size[0], size[1], i+8)
				j := madeJob(7*i + kind)
				m, ok := impl.JobMap(p, q, j)
				text := textOfResult(m, ok)
				for workers := int64(1); workers <= 8; workers++ {
					shared, okShared := impl.JobShared(p, q, j, workers)
					want(t, fmt.Sprint("JobShared of workers: ", workers), textOfResult(shared, okShared), text)
				}
			}
		})
	}
}

func TestJobShared(t *testing.T) {
	j := jobOf(impl.JobSquare, 0, 2, false)
	for workers := int64(1); workers <= 8; workers++ {
		m, ok := impl.JobShared(exampleLeft(), exampleRight(), j, workers)
		wantMap(t, "JobShared of the example", m, ok, mapOf(2, 0, 1))
		left, right := pictureOf(2, 1, 2, 2, 4, 0, 0), pictureOf(2, 2, 4, 2, 4, 0, 1)
		m, ok = impl.JobShared(left, right, j, workers)
		wantMap(t, "JobShared of three rows", m, ok, mapOf(2, 0, 1, 0, 0, 0, 1))
	}
	for _, workers := range append(noPlacesOf(9), 0) {
		m, ok := impl.JobShared(exampleLeft(), exampleRight(), j, workers)
		wantNoMap(t, fmt.Sprint("JobShared with workers: ", workers), m, ok)
	}
}

// One row that is not solved is enough, whoever has it.
func TestJobSharedWithOneBadRow(t *testing.T) {
	for _, high := range []int64{1, 2, 5, 8, 9, 24} {
		left, right := counted(2, high), counted(2, high)
		for y := range high {
			bad, ok := impl.PutGrey(left, 1, y, at(nanBits))
			want(t, "PutGrey succeeds", ok, true)
			for reach := range int64(2) {
				for workers := int64(1); workers <= 8; workers++ {
					for _, pair := range [][2]impl.Picture{{bad, right}, {left, bad}} {
						m, ok := impl.JobShared(pair[0], pair[1], jobOf(impl.JobSize, reach, 1, true), workers)
						wantNoMap(t, fmt.Sprint("JobShared with the bad row ", y), m, ok)
						m, ok = impl.JobShared(pair[0], pair[1], jobOf(impl.JobSize, reach, 1, false), workers)
						want(t, "JobShared of winners succeeds", ok, true)
						wantBits(t, fmt.Sprint("winner in the bad row ", y), m.Values[2*y+1], bitsHole)
					}
				}
			}
		}
	}
}

// What is told of a tile are the rows of the map, whatever the others are.
func TestJobRows(t *testing.T) {
	for i, size := range sizes() {
		kind := []int{madeEven, madeFew, madeSubnormal}[i%3]
		p, q := made(kind, size[0], size[1], i+3), made(kind, size[0], size[1], i+4)
		j := madeJob(i)
		m, ok := impl.JobMap(p, q, j)
		want(t, "JobMap succeeds", ok, true)
		for from := int64(0); from < size[1]; from += 1 + from/4 {
			for count := int64(1); from+count <= size[1]; count += count {
				tile := impl.Tile{From: from, Count: count}
				wanted := fmt.Sprint(bitsOfList(rowsOfMap(m, tile)))
				rows, ok := impl.JobRows(p, q, j, tile)
				want(t, "JobRows succeeds", ok, true)
				want(t, fmt.Sprint("JobRows of ", tile), fmt.Sprint(bitsOfList(rows)), wanted)
				farP, farQ := spoiledFar(p, tile, j.Reach), spoiledFar(q, tile, j.Reach)
				rows, ok = impl.JobRows(farP, farQ, j, tile)
				want(t, "JobRows succeeds where far rows are spoiled", ok, true)
				want(t, "JobRows where far rows are spoiled", fmt.Sprint(bitsOfList(rows)), wanted)
			}
		}
	}
}

// spoiledFar returns the picture with not-a-numbers in all rows that are more
// than reach rows away from a tile.
func spoiledFar(p impl.Picture, tile impl.Tile, reach int64) impl.Picture {
	q := impl.Picture{Wide: p.Wide, High: p.High, Greys: append([]float32{}, p.Greys...)}
	for y := range p.High {
		if y < tile.From-reach || y >= tile.From+tile.Count+reach {
			for x := range p.Wide {
				q.Greys[x+p.Wide*y] = at(nanBits)
			}
		}
	}
	return q
}

// Each row of the halo counts: where one row alone is shifted, all rows from
// which it is in reach tell this.
func TestJobRowsNearAnother(t *testing.T) {
	flat, ok := impl.FlatPicture(2, 24, 0)
	want(t, "FlatPicture succeeds", ok, true)
	for row := range int64(24) {
		left, okLeft := impl.PutGrey(flat, 1, row, 1)
		right, okRight := impl.PutGrey(flat, 0, row, 1)
		want(t, "PutGrey succeeds", okLeft && okRight, true)
		for reach := int64(1); reach <= 3; reach++ {
			for y := range int64(24) {
				wanted := []float32{0, 0}
				if row-reach <= y && y <= row+reach {
					wanted = []float32{1, 1}
				}
				for _, kind := range jobKinds {
					rows, ok := impl.JobRows(left, right, jobOf(kind, reach, 2, false), impl.Tile{From: y, Count: 1})
					want(t, "JobRows succeeds", ok, true)
					want(t, fmt.Sprint("JobRows of ", y, " with ", row, " and the reach ", reach), fmt.Sprint(rows), fmt.Sprint(wanted))
				}
			}
		}
	}
}

// Where rows are solved, a tile fails for a not-a-number in its halo, and not
// for one beyond it.
func TestJobRowsThatFail(t *testing.T) {
	p := counted(3, 12)
	for row := range int64(12) {
		bad, ok := impl.PutGrey(p, 1, row, at(nanBits))
		want(t, "PutGrey succeeds", ok, true)
		for reach := range int64(4) {
			for _, tile := range []impl.Tile{{Count: 1}, {Count: 12}, {From: 5, Count: 2}, {From: 11, Count: 1}, {From: 3, Count: 1}} {
				near := tile.From-reach <= row && row < tile.From+tile.Count+reach
				rows, ok := impl.JobRows(p, bad, jobOf(impl.JobSquare, reach, 3, true), tile)
				want(t, fmt.Sprint("JobRows of ", tile, " with the bad row ", row, " and the reach ", reach, " succeeds"), ok, !near)
				want(t, "values of JobRows", len(rows) == 0, near)
				rows, ok = impl.JobRows(p, bad, jobOf(impl.JobSquare, reach, 3, false), tile)
				want(t, "JobRows of winners succeeds", ok && int64(len(rows)) == 3*tile.Count, true)
			}
		}
	}
}

// Many may share work at once, and nobody is left behind.
func TestWorkersAreJoined(t *testing.T) {
	p, q := made(madeEven, 10, 24, 1), made(madeEven, 10, 24, 2)
	j := jobOf(impl.JobSize, 2, 6, true)
	m, ok := impl.JobMap(p, q, j)
	want(t, "JobMap succeeds", ok, true)
	text := textOfResult(m, ok)
	before := runtime.NumGoroutine()
	var group sync.WaitGroup
	for i := range 40 {
		group.Add(1)
		go func() {
			defer group.Done()
			shared, ok := impl.JobShared(p, q, j, int64(1+i%8))
			if got := textOfResult(shared, ok); got != text {
				t.Errorf("JobShared beside others: got %s, want %s", got, text)
			}
		}()
	}
	group.Wait()
	// Those that have done all may still be about to end.
	for range 1000 {
		if runtime.NumGoroutine() <= before {
			return
		}
		time.Sleep(time.Millisecond)
	}
	t.Errorf("there are %d goroutines, and there were %d", runtime.NumGoroutine(), before)
}
