package tests

import (
	"fmt"
	"testing"

	"loop.example/g01223/impl"
)

func TestLimitsOfWork(t *testing.T) {
	want(t, "MaxWorkers", impl.MaxWorkers, 8)
	want(t, "MaxAlbum", impl.MaxAlbum, 8)
	want(t, "JobSquare", impl.JobSquare, 0)
	want(t, "JobSize", impl.JobSize, 1)
}

func TestValidJob(t *testing.T) {
	for _, kind := range jobKinds {
		for reach := range int64(4) {
			for deep := int64(1); deep <= 8; deep++ {
				for _, solve := range []bool{false, true} {
					j := jobOf(kind, reach, deep, solve)
					want(t, fmt.Sprint("ValidJob of ", j), impl.ValidJob(j), true)
				}
			}
		}
	}
	want(t, "ValidJob without prices", impl.ValidJob(impl.Job{Deep: 1}), true)
	want(t, "ValidJob with the greatest prices", impl.ValidJob(impl.Job{Deep: 1, Prices: pricesAt(bitsMost, bitsMost)}), true)
	for name, j := range invalidJobs() {
		want(t, "ValidJob: "+name, impl.ValidJob(j), false)
	}
}

func TestJobVolume(t *testing.T) {
	left, right := exampleLeft(), exampleRight()
	for _, c := range []struct {
		kind, reach int64
		wanted      []uint32
	}{
		{impl.JobSquare, 0, []uint32{bitsOne, bitsOne, bitsFour, 0}},
		{impl.JobSize, 0, []uint32{bitsOne, bitsOne, bitsTwo, 0}},
		// Thrice 1 1 4, 1 1 0, 1 4 4, and 1 0 0, divided by 9.
		{impl.JobSquare, 1, []uint32{bitsTwo, 0x3f2aaaab, bitsThree, 0x3eaaaaab}},
		{impl.JobSize, 1, []uint32{0x3faaaaab, 0x3f2aaaab, 0x3fd55555, 0x3eaaaaab}},
	} {
		v, ok := impl.JobVolume(left, right, jobOf(c.kind, c.reach, 2, false))
		wantVolume(t, fmt.Sprint("JobVolume of the kind ", c.kind, " with the reach ", c.reach), v, ok, volumeAt(2, 2, c.wanted...))
		v, ok = impl.JobVolume(left, right, jobOf(c.kind, c.reach, 2, true))
		wantVolume(t, "JobVolume where rows are solved", v, ok, volumeAt(2, 2, c.wanted...))
	}
	v, ok := impl.JobVolume(left, right, jobOf(impl.JobSize, 0, 1, false))
	wantVolume(t, "JobVolume of one disparity", v, ok, volumeOf(2, 1, 1, 2))
	// Prices do not change costs.
	v, ok = impl.JobVolume(left, right, priced(jobOf(impl.JobSize, 0, 1, true), 7, 9))
	wantVolume(t, "JobVolume with other prices", v, ok, volumeOf(2, 1, 1, 2))
}

// Costs of jobs are means of costs, and disparities of jobs are told of these.
func TestJobsOfAllSizes(t *testing.T) {
	solved := 0
	for i, size := range sizes() {
		for kind := range madeKinds {
			p, q := made(kind, size[0], size[1], i), made(kind, size[0], size[1], i+1)
			j := madeJob(5*i + kind)
			costs, ok := impl.SquareVolume(p, q, j.Deep)
			if j.Kind == impl.JobSize {
				costs, ok = impl.SizeVolume(p, q, j.Deep)
			}
			want(t, "costs succeed", ok, true)
			means, ok := impl.BoxVolume(costs, j.Reach)
			want(t, "BoxVolume succeeds", ok, true)
			v, ok := impl.JobVolume(p, q, j)
			wantVolume(t, "JobVolume", v, ok, means)
			wanted, ok := impl.WinnersOf(means)
			if j.Solve {
				wanted, ok = impl.SolveRows(means, j.Prices)
			}
			if ok {
				solved++
			}
			m, okMap := impl.JobMap(p, q, j)
			want(t, fmt.Sprint("JobMap of ", j), textOfResult(m, okMap), textOfResult(wanted, ok))
		}
	}
	if solved < 900 || solved == madeKinds*len(sizes()) {
		t.Errorf("%d of %d jobs succeed: too few or too many", solved, madeKinds*len(sizes()))
	}
}

func TestJobMap(t *testing.T) {
	// The costs are 0 0, 3 0, 0 3, or 0 0, 9 0, 0 9.
	left, right := pictureOf(3, 0, 0, 0), pictureOf(3, 0, 3, 0)
	for _, c := range []struct {
		what   string
		job    impl.Job
		wanted []float32
	}{
		{"winners of sizes", jobOf(impl.JobSize, 0, 2, false), []float32{0, 1, 0}},
		{"winners of squares", jobOf(impl.JobSquare, 0, 2, false), []float32{0, 1, 0}},
		{"jumps that cost nothing", priced(jobOf(impl.JobSize, 0, 2, true), 0, 0), []float32{0, 1, 0}},
		{"jumps that cost 2", priced(jobOf(impl.JobSize, 0, 2, true), 2, 2), []float32{1, 1, 0}},
		{"jumps that cost 4 for sizes", priced(jobOf(impl.JobSize, 0, 2, true), 4, 4), []float32{0, 0, 0}},
		{"jumps that cost 4 for squares", priced(jobOf(impl.JobSquare, 0, 2, true), 4, 4), []float32{1, 1, 0}},
		{"one disparity", jobOf(impl.JobSquare, 0, 1, true), []float32{0, 0, 0}},
	} {
		m, ok := impl.JobMap(left, right, c.job)
		wantMap(t, "JobMap of "+c.what, m, ok, mapOf(3, c.wanted...))
	}
	m, ok := impl.JobMap(exampleLeft(), exampleRight(), jobOf(impl.JobSquare, 0, 2, false))
	wantMap(t, "JobMap of the example", m, ok, mapOf(2, 0, 1))
	m, ok = impl.JobMap(exampleLeft(), exampleRight(), jobOf(impl.JobSquare, 1, 2, false))
	wantMap(t, "JobMap of the example with a reach", m, ok, mapOf(2, 1, 1))
}

// A row with a cost that is a not-a-number is not solved, but its winners are
// those of the others, or -1.
func TestJobsOfNotANumbers(t *testing.T) {
	left := pictureOf(2, 1, 2, 3, 4)
	right := pictureAt(2, bitsOne, nanBits, bitsThree, bitsFour)
	for _, kind := range jobKinds {
		m, ok := impl.JobMap(left, right, jobOf(kind, 0, 1, false))
		wantMap(t, "JobMap of a not-a-number", m, ok, mapOf(2, 0, -1, 0, 0))
		m, ok = impl.JobMap(left, right, jobOf(kind, 0, 2, false))
		wantMap(t, "JobMap of a not-a-number and others", m, ok, mapOf(2, 0, 1, 0, 0))
		m, ok = impl.JobMap(left, right, jobOf(kind, 1, 2, false))
		wantMap(t, "JobMap of a not-a-number in windows", m, ok, mapOf(2, 1, 1, 1, 1))
		m, ok = impl.JobMap(left, right, jobOf(kind, 1, 1, false))
		wantMap(t, "JobMap of a not-a-number in all windows", m, ok, mapOf(2, -1, -1, -1, -1))
		for reach := range int64(4) {
			m, ok = impl.JobMap(left, right, jobOf(kind, reach, 2, true))
			wantNoMap(t, "JobMap of a not-a-number where rows are solved", m, ok)
			v, ok := impl.JobVolume(left, right, jobOf(kind, reach, 2, true))
			want(t, "JobVolume of a not-a-number succeeds", ok && impl.ValidVolume(v), true)
		}
		// Differences of infinities are not-a-numbers; others are infinite, and solved.
		m, ok = impl.JobMap(pictureAt(1, bitsInf), pictureAt(1, bitsInf), jobOf(kind, 0, 1, true))
		wantNoMap(t, "JobMap of infinities", m, ok)
		m, ok = impl.JobMap(pictureAt(2, bitsInf, 0), pictureAt(2, bitsOne, bitsLess), jobOf(kind, 0, 2, true))
		wantMap(t, "JobMap of infinite costs", m, ok, mapOf(2, 0, 0))
	}
}

func TestJobsThatFail(t *testing.T) {
	left, right := counted(3, 2), counted(3, 2)
	tile := impl.Tile{Count: 1}
	for name, j := range invalidJobs() {
		wantNoWork(t, "a job that is not valid: "+name, left, right, j, tile, 2)
	}
	for _, j := range []impl.Job{jobOf(impl.JobSquare, 1, 2, false), jobOf(impl.JobSize, 0, 8, true)} {
		for name, p := range invalidPictures() {
			wantNoWork(t, "a left picture that is not valid: "+name, p, right, j, tile, 2)
			wantNoWork(t, "a right picture that is not valid: "+name, left, p, j, tile, 2)
			wantNoWork(t, "pictures that are not valid: "+name, p, p, j, tile, 2)
		}
		for _, other := range []impl.Picture{counted(2, 2), counted(3, 1), counted(2, 3), counted(6, 1), counted(3, 3), counted(4, 2)} {
			wantNoWork(t, "pictures of two sizes", left, other, j, tile, 2)
			wantNoWork(t, "pictures of two sizes", other, left, j, tile, 2)
		}
	}
}

// wantNoWork checks that all functions with jobs fail.
func wantNoWork(t *testing.T, what string, left, right impl.Picture, j impl.Job, tile impl.Tile, workers int64) {
	t.Helper()
	v, ok := impl.JobVolume(left, right, j)
	wantNoVolume(t, "JobVolume of "+what, v, ok)
	m, ok := impl.JobMap(left, right, j)
	wantNoMap(t, "JobMap of "+what, m, ok)
	rows, ok := impl.JobRows(left, right, j, tile)
	wantNone(t, "JobRows of "+what, []float32(rows), ok)
	want(t, "rows of JobRows of "+what, len(rows), 0)
	m, ok = impl.JobShared(left, right, j, workers)
	wantNoMap(t, "JobShared of "+what, m, ok)
}
