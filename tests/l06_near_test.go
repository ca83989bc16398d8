package tests

import (
	"fmt"
	"math"
	"slices"
	"testing"

	"loop.example/g01223/impl"
)

func TestOffPlane(t *testing.T) {
	level := impl.Plane{C: 3}
	for _, c := range []struct {
		what   string
		points []impl.Vector
		p      impl.Plane
		wanted uint32
	}{
		{"the given points", vectorsOf(0, 0, 1, 2, 0, 1, 0, 2, 1, 2, 2, 1), level, bitsTwo},
		{"no points", nil, level, 0},
		{"points above", vectorsOf(0, 0, 4, 1, 1, 7, 5, 5, 3), level, bitsFour},
		{"points below", vectorsOf(0, 0, 2, 1, 1, -4, 5, 5, 3), level, bitsSeven},
		{"points of it", gridOf(256, impl.Plane{A: 2, B: -1, C: 1}), impl.Plane{A: 2, B: -1, C: 1}, 0},
		{"points of another one", gridOf(256, impl.Plane{A: 2, B: -1, C: 1}), impl.Plane{A: 2, B: -2, C: 1}, 0x41700000},
		{"an infinite point", []impl.Vector{{Z: 1}, vectorAt(0, 0, bitsLess)}, level, bitsInf},
		{"not-a-numbers", []impl.Vector{vectorAt(0, 0, nanBits), {Z: 1}, vectorAt(nanBits, 0, 9), vectorAt(0, bitsInf, 0)}, level, bitsTwo},
		{"nothing but not-a-numbers", []impl.Vector{vectorAt(0, 0, nanBits), vectorAt(bitsInf, 0, bitsOne)}, level, 0},
		{"points of a plane of not-a-numbers", vectorsOf(1, 2, 3, 4, 5, 6), planeAt(nanBits, 0, 0), 0},
		{"points of an infinite plane", vectorsOf(1, 2, 3, 4, 5, 6), planeAt(0, 0, bitsInf), bitsInf},
		{"a rounded height", []impl.Vector{{X: 1, Y: 1, Z: 1 << 24}}, impl.Plane{A: 1 << 24, B: 1, C: 1}, 0},
		{"a rounded difference", []impl.Vector{{Z: 1 << 24}}, impl.Plane{C: 0.75}, 0x4b7fffff},
	} {
		got, ok := impl.OffPlane(c.points, c.p)
		wantNumber(t, "OffPlane of "+c.what, got, ok, c.wanted)
	}
	got, ok := impl.OffPlane(gridOf(257, level), level)
	wantNoNumber(t, "OffPlane of too many points", got, ok)
}

func TestNearPlane(t *testing.T) {
	level := impl.Plane{C: 1}
	points := []impl.Vector{{Z: 1}, {Z: 5}, {X: 7, Z: 1.5}, {Z: 0.5}, vectorAt(0, 0, nanBits), vectorAt(0, 0, bitsInf), {Z: -2}, vectorAt(0, 0, 0x3f800001)}
	for _, c := range []struct {
		near   uint32
		wanted []int64
	}{
		{0x3f000000, []int64{0, 2, 3, 7}},
		{0x3effffff, []int64{0, 7}},
		{bitsThree, []int64{0, 2, 3, 6, 7}},
		{bitsFour, []int64{0, 1, 2, 3, 6, 7}},
		{0, []int64{0}},
		{bitsNull, []int64{0}},
		{0x34000000, []int64{0, 7}},
		{0x33ffffff, []int64{0}},
		{bitsMost, []int64{0, 1, 2, 3, 6, 7}},
		{bitsInf, []int64{0, 1, 2, 3, 5, 6, 7}},
		{0x80000001, nil}, {bitsHole, nil}, {bitsLess, nil}, {nanBits, nil}, {0xff800001, nil},
	} {
		set, ok := impl.NearPlane(points, level, at(c.near))
		wantList(t, fmt.Sprint("NearPlane with ", at(c.near)), set, ok, c.wanted...)
	}
	set, ok := impl.NearPlane([]impl.Vector{{Z: 1}, {Z: 5}}, level, 0.5)
	wantList(t, "NearPlane of the given points", set, ok, 0)
	set, ok = impl.NearPlane(nil, level, 0.5)
	wantList(t, "NearPlane of no points", set, ok)
	set, ok = impl.NearPlane(points, planeAt(0, nanBits, 0), at(bitsInf))
	wantList(t, "NearPlane of a plane of not-a-numbers", set, ok)
	set, ok = impl.NearPlane(gridOf(256, level), level, 0)
	want(t, "NearPlane of the greatest number succeeds", ok, true)
	want(t, "NearPlane of the greatest number", len(set), 256)
	for _, count := range []int{257, 300} {
		set, ok = impl.NearPlane(gridOf(count, level), level, 0)
		want(t, "NearPlane of too many points succeeds", ok, false)
		want(t, "NearPlane of too many points", len(set), 0)
	}
}

// Points are near a plane just where they are not further off than this.
func TestOffAndNearPlaneAgree(t *testing.T) {
	for i, size := range sizes() {
		s := madeScene(i%3, size[0], size[1])
		for j, points := range s.points {
			off, ok := impl.OffPlane(points, s.planes[j])
			want(t, "OffPlane succeeds", ok, true)
			all, ok := impl.NearPlane(points, s.planes[j], off)
			want(t, "NearPlane succeeds", ok, true)
			fewer, ok := impl.NearPlane(points, s.planes[j], math.Nextafter32(off, -1))
			want(t, "NearPlane succeeds", ok, true)
			numbers := 0
			for _, v := range points {
				if far := v.Z - impl.HeightAt(s.planes[j], v.X, v.Y); far == far {
					numbers++
				}
			}
			want(t, "points at most as far as OffPlane", len(all), numbers)
			if numbers > 0 && len(fewer) >= numbers {
				t.Errorf("NearPlane: got %d of %d points that are nearer than the one that is furthest off", len(fewer), numbers)
			}
		}
	}
}

// seven are points of which those with the indices 3, 4 and 5, which are taken
// first for the seed 1, are in one plane, and four others in another one, three
// of which are taken in the third round.
func seven(z float32) []impl.Vector {
	return vectorsOf(0, 0, 1, 3, 1, 1, 1, 4, z, 2, 2, 5, 7, 1, 5, 2, 9, 5, 5, 5, 1)
}

func TestBestPlane(t *testing.T) {
	upper, lower := impl.Plane{C: 5}, impl.Plane{C: 1}
	for _, c := range []struct {
		points []impl.Vector
		near   float32
		seed   int64
		rounds int64
		wanted impl.Plane
		set    []int64
	}{
		{seven(1), 0, 1, 1, upper, []int64{3, 4, 5}},
		{seven(1), 0, 1, 2, upper, []int64{3, 4, 5}}, // the second round takes one point twice
		{seven(1), 0, 1, 3, lower, []int64{0, 1, 2, 6}},
		{seven(1), 0, 1, 50, lower, []int64{0, 1, 2, 6}},
		// No more points than before are not enough.
		{seven(100), 0, 1, 3, upper, []int64{3, 4, 5}},
		{seven(1.5), 0.5, 1, 3, lower, []int64{0, 1, 2, 6}},
		{seven(1.5), 0.25, 1, 3, upper, []int64{3, 4, 5}},
		// From 4 on, the first plane has all points.
		{seven(1), 4, 1, 50, upper, []int64{0, 1, 2, 3, 4, 5, 6}},
		{seven(1), at(bitsInf), 1, 50, upper, []int64{0, 1, 2, 3, 4, 5, 6}},
	} {
		p, set, ok := impl.BestPlane(c.points, c.near, c.seed, c.rounds)
		what := fmt.Sprint("BestPlane near ", c.near, " of ", c.points, " with the seed ", c.seed, " and rounds: ", c.rounds)
		wantList(t, what, set, ok, c.set...)
		want(t, what, p, c.wanted)
	}
}

// A plane through three points is not always near to all of them.
func TestBestPlaneBesideItsPoints(t *testing.T) {
	for _, c := range []struct {
		numbers []uint32
		set     []int64
		plane   [3]uint32
	}{
		{[]uint32{0x404ad1ec, 0xc0cbdb68, 0xc0364e8d, 0xc02a3c7c, 0x40aac59c, 0xbf7c300e, 0x40b608b5, 0xc0a95394, 0xc027356f}, []int64{0, 2}, [3]uint32{0x3cabeb32, 0x3e2db0cc, 0xbfead054}},
		{[]uint32{0xbfada633, 0x3fa3c4cd, 0xc0f5bba1, 0x3fed2779, 0x40075a56, 0xc0e13d21, 0x400265b5, 0xbf0a3cfd, 0x4037958b}, []int64{2}, [3]uint32{0x3f93376e, 0xc069b53c, 0xbfb92e36}},
	} {
		p, set, ok := impl.BestPlane(vectorsOf(listOf(c.numbers...)...), 0, 1, 1)
		wantPlane(t, "BestPlane", p, ok, c.plane[0], c.plane[1], c.plane[2])
		wantList(t, "points of BestPlane", set, ok, c.set...)
	}
	// No plane through these points is near to one of them.
	points := vectorsOf(listOf(0x3fbdcac1, 0xc0384b44, 0xc00b4f5b, 0xc03fd343, 0xc005fc80, 0x3fc3d535, 0xc04c62e7, 0xbffb935c, 0x408b676c)...)
	p, ok := impl.PlaneThrough(points[2], points[1], points[0])
	wantPlane(t, "PlaneThrough", p, ok, 0x408537bd, 0x41e389af, 0x42931aeb)
	best, set, ok := impl.BestPlane(points, 0, 1, 50)
	wantNoPlane(t, "BestPlane near no points", best, ok)
	want(t, "points of BestPlane that fails", len(set), 0)
}

// drawn are the numbers that follow one another for the seed 1.
var drawn = []int64{16838, 5758, 10113, 17515, 31051, 5627, 23010, 7419, 16212, 4086, 2749, 12767, 9084, 12060, 32225, 17543, 25089, 21183, 25137, 25566}

// The planes that are tried are those of the numbers that are drawn, and the
// best one of these is kept.
func TestRoundsOfBestPlane(t *testing.T) {
	for _, size := range sizes() {
		points := madeScene(patchyEven, size[0], size[1]).points[1]
		var plane impl.Plane
		var set []int64
		for round := range len(drawn) / 3 {
			var three [3]impl.Vector
			for i := range three {
				three[i] = points[drawn[3*round+i]%int64(len(points))]
			}
			if p, ok := impl.PlaneThrough(three[0], three[1], three[2]); ok {
				if near, _ := impl.NearPlane(points, p, 0.25); len(near) > len(set) {
					plane, set = p, near
				}
			}
			got, gotSet, ok := impl.BestPlane(points, 0.25, 1, int64(round+1))
			what := fmt.Sprint("BestPlane of a grid ", size, " with rounds: ", round+1)
			want(t, what+" succeeds", ok, len(set) > 0 && len(points) >= 3)
			want(t, what, textOfPlane(got), textOfPlane(plane))
			want(t, what, slices.Equal(gotSet, set), true)
		}
	}
}

func TestBestPlaneOfNothing(t *testing.T) {
	for _, c := range []struct {
		what         string
		points       []impl.Vector
		near         float32
		seed, rounds int64
	}{
		{"no points", nil, 1, 1, 50},
		{"two points", seven(1)[:2], 1, 1, 50},
		{"too many points", gridOf(257, impl.Plane{}), 1, 1, 50},
		{"a seed less than 0", seven(1), 1, -1, 50},
		{"the least seed", seven(1), 1, math.MinInt64, 50},
		{"a seed that is too great", seven(1), 1, 2147483648, 50},
		{"the greatest seed", seven(1), 1, math.MaxInt64, 50},
		{"no rounds", seven(1), 1, 1, 0},
		{"rounds less than 0", seven(1), 1, 1, -1},
		{"too many rounds", seven(1), 1, 1, 51},
		{"the least number of rounds", seven(1), 1, 1, math.MinInt64},
		{"the greatest number of rounds", seven(1), 1, 1, math.MaxInt64},
		{"near less than 0", seven(1), at(0x80000001), 1, 50},
		{"near the negative infinity", seven(1), at(bitsLess), 1, 50},
		{"near a not-a-number", seven(1), at(nanBits), 1, 50},
		{"one point", vectorsOf(1, 2, 3, 1, 2, 3, 1, 2, 3, 1, 2, 3), at(bitsInf), 1, 50},
		{"points in a line", vectorsOf(0, 0, 1, 1, 1, 2, 2, 2, 7, 3, 3, 0), at(bitsInf), 1, 50},
		{"points above one another", vectorsOf(1, 1, 1, 1, 1, 2, 1, 1, 7), at(bitsInf), 1, 50},
		{"points that are not finite", []impl.Vector{vectorAt(bitsInf, 0, 0), vectorAt(0, nanBits, 0), vectorAt(0, 0, bitsLess)}, at(bitsInf), 1, 50},
	} {
		p, set, ok := impl.BestPlane(c.points, c.near, c.seed, c.rounds)
		wantNoPlane(t, "BestPlane of "+c.what, p, ok)
		want(t, "points of BestPlane of "+c.what, len(set), 0)
	}
	// Of four points, the first two rounds take one twice for the seed 1.
	square := vectorsOf(0, 0, 1, 2, 0, 1, 0, 2, 1, 2, 2, 1)
	for rounds := int64(1); rounds <= 3; rounds++ {
		p, set, ok := impl.BestPlane(square, 0, 1, rounds)
		if rounds < 3 {
			wantNoPlane(t, "BestPlane of points that are taken twice", p, ok)
			want(t, "points of BestPlane that fails", len(set), 0)
			continue
		}
		want(t, "BestPlane of a square", p, impl.Plane{C: 1})
		wantList(t, "BestPlane of a square", set, ok, 0, 1, 2, 3)
	}
}

func TestLimitsOfBestPlane(t *testing.T) {
	level := impl.Plane{C: 7}
	for _, seed := range []int64{0, 1, 65535, 2147483646, 2147483647} {
		for _, points := range [][]impl.Vector{gridOf(256, level), gridOf(255, level), vectorsOf(0, 0, 7, 1, 0, 7, 0, 1, 7)} {
			p, set, ok := impl.BestPlane(points, 0, seed, 50)
			want(t, "BestPlane succeeds", ok, true)
			want(t, fmt.Sprint("BestPlane of ", len(points), " points with the seed ", seed), p, level)
			want(t, "points of BestPlane", len(set), len(points))
		}
	}
}

// A plane of which most points are is found among others that are far away.
func TestBestPlaneLeavesOthersOut(t *testing.T) {
	wanted := impl.Plane{A: 0.5, B: -0.25, C: 1}
	for seed := range int64(100) {
		points := gridOf(64, wanted)
		var set []int64
		for i := range points {
			if i%3 == 0 {
				points[i].Z += float32(10 + i*i%37)
				continue
			}
			set = append(set, int64(i))
		}
		p, got, ok := impl.BestPlane(points, 0.01, seed, 50)
		wantList(t, fmt.Sprint("BestPlane with the seed ", seed), got, ok, set...)
		wantNear(t, "A of BestPlane", float64(p.A), 0.5, 1e-5)
		wantNear(t, "B of BestPlane", float64(p.B), -0.25, 1e-5)
		wantNear(t, "C of BestPlane", float64(p.C), 1, 1e-5)
	}
}

func TestPlaneMap(t *testing.T) {
	tilted := impl.Camera{Focus: 4, Base: 1, MidX: 1, MidY: 2}
	for _, c := range []struct {
		what       string
		camera     impl.Camera
		p          impl.Plane
		wide, high int64
		wanted     impl.Map
	}{
		{"the given one", impl.Camera{Focus: 4, Base: 1}, impl.Plane{C: 2}, 2, 1, mapOf(2, 2, 2)},
		{"a plane that rises along x", tilted, impl.Plane{A: 1, C: 2}, 7, 1, mapOf(7, 2.5, 2, 1.5, 1, 0.5, -1, -1)},
		{"a plane that rises along y", tilted, impl.Plane{B: 2, C: 4}, 1, 6, mapOf(1, 2, 1.5, 1, 0.5, -1, -1)},
		{"a plane that falls", tilted, impl.Plane{A: -1, B: -2, C: 4}, 2, 3, mapOf(2, -1, -1, 0.25, 0.5, 0.75, 1)},
		{"a plane behind the camera", tilted, impl.Plane{C: -2}, 2, 1, mapOf(2, -1, -1)},
		{"a plane behind the camera that rises", tilted, impl.Plane{A: 1, C: -2}, 7, 1, mapOf(7, -1, -1, -1, -1, -1, -1, 0.5)},
		{"a plane through the camera", tilted, impl.Plane{A: 1}, 7, 1, mapOf(7, -1, -1, -1, -1, -1, -1, -1)},
		{"a base", impl.Camera{Focus: 4, Base: 3}, impl.Plane{C: 2}, 1, 1, mapOf(1, 6)},
		{"subnormal disparities", cameraAt(bitsOne, 1, 0, 0), impl.Plane{C: 1}, 1, 1, mapAt(1, 1)},
		{"disparities of nothing", cameraAt(bitsOne, 1, 0, 0), impl.Plane{C: 2}, 1, 1, mapOf(1, -1)},
		{"disparities that are too great", cameraAt(bitsMost, bitsOne, 0, 0), impl.Plane{C: 0.5}, 1, 1, mapOf(1, -1)},
		{"a product that is too great", cameraAt(bitsMost, bitsTwo, 0, 0), impl.Plane{C: 8}, 1, 1, mapOf(1, -1)},
		{"a product of nothing", cameraAt(0x0da24260, 0x0da24260, 0, 0), impl.Plane{C: 1e-30}, 1, 1, mapOf(1, -1)},
		{"an infinite plane", tilted, planeAt(0, 0, bitsInf), 1, 1, mapOf(1, -1)},
		{"an infinite slope", tilted, planeAt(bitsLess, 0, bitsOne), 3, 1, mapOf(3, -1, -1, -1)},
		{"not-a-numbers", tilted, planeAt(0, nanBits, bitsOne), 1, 1, mapOf(1, -1)},
	} {
		got, ok := impl.PlaneMap(c.camera, c.p, c.wide, c.high)
		wantMap(t, "PlaneMap of "+c.what, got, ok, c.wanted)
	}
	for name, c := range invalidCameras() {
		got, ok := impl.PlaneMap(c, impl.Plane{C: 2}, 2, 1)
		wantNoMap(t, "PlaneMap with "+name, got, ok)
	}
	for _, bad := range [][2]int64{{0, 1}, {1, 0}, {-1, 1}, {1, -1}, {-2, -2}, {25, 1}, {1, 25}, {24, 11}, {16, 17}, {math.MinInt64, 1}, {math.MaxInt64, math.MaxInt64}, {1 << 32, 1 << 32}} {
		got, ok := impl.PlaneMap(tilted, impl.Plane{C: 2}, bad[0], bad[1])
		wantNoMap(t, fmt.Sprint("PlaneMap with the size ", bad), got, ok)
	}
}

// Each number is rounded, in the told order.
func TestRoundedPlaneMap(t *testing.T) {
	for _, c := range []struct {
		camera     impl.Camera
		p          impl.Plane
		wide, high int64
		wanted     uint32
	}{
		{cameraAt(0x40acb3e2, 0x3f9c308d, 0x40674be2, 0x40b052c6), planeAt(0x3ed1fb06, 0xbed025e0, 0x40ac8587), 5, 5, 0x3f85fb5d},
		{cameraAt(0x40e2f7ea, 0x3ff56f7b, 0x3f876934, 0x3fb1264a), planeAt(0x3ebdd792, 0xbec6ad15, 0x403fdfd6), 7, 2, 0x40513830},
	} {
		got, ok := impl.PlaneMap(c.camera, c.p, c.wide, c.high)
		want(t, "PlaneMap succeeds", ok, true)
		wantBits(t, "last value of PlaneMap", got.Values[len(got.Values)-1], c.wanted)
	}
}

// The points of the disparities of a plane are points of it, nearly.
func TestPlanesHaveTheirDisparities(t *testing.T) {
	for _, size := range sizes() {
		s := madeScene(patchyEven, size[0], size[1])
		c, p := s.cameras[1], s.planes[1]
		m, ok := impl.PlaneMap(c, p, size[0], size[1])
		want(t, "PlaneMap succeeds", ok, true)
		points, cells, ok := impl.PointsOf(c, m)
		want(t, "PointsOf succeeds", ok, true)
		next := 0
		for i, d := range m.Values {
			x, y := float64(int64(i)%size[0]), float64(int64(i)/size[0])
			ahead := float64(c.Focus) - float64(p.A)*(x-float64(c.MidX)) - float64(p.B)*(y-float64(c.MidY))
			if ahead <= 0 {
				wantBits(t, "PlaneMap where there is no plane", d, bitsHole)
				continue
			}
			wanted := ahead * float64(c.Base) / float64(p.C)
			wantNear(t, "PlaneMap", float64(d), wanted, 1e-4)
			want(t, "cell of PointsOf", cells[next], int64(i))
			v := points[next]
			height := float64(impl.HeightAt(p, v.X, v.Y))
			scale := math.Abs(float64(p.A*v.X)) + math.Abs(float64(p.B*v.Y)) + float64(v.Z)
			wantNear(t, "HeightAt a point of PlaneMap", height, float64(v.Z), 1e-5*scale)
			next++
		}
		want(t, "points of PlaneMap", len(points), next)
	}
}

// The plane that fits the points of PlaneMap is the plane itself, nearly.
func TestPlanesAreFoundAgain(t *testing.T) {
	c := impl.Camera{Focus: 16, Base: 0.5, MidX: 4, MidY: 3}
	for _, p := range []impl.Plane{{C: 2}, {A: 0.5, C: 4}, {B: -0.25, C: 3}, {A: 0.25, B: 0.5, C: 8}} {
		m, ok := impl.PlaneMap(c, p, 9, 7)
		want(t, "PlaneMap succeeds", ok, true)
		points, _, ok := impl.PointsOf(c, m)
		want(t, "PointsOf succeeds", ok, true)
		fit, ok := impl.FitPlane(points)
		want(t, "FitPlane succeeds", ok, true)
		best, set, ok := impl.BestPlane(points, 0.001, 7, 50)
		want(t, "BestPlane succeeds", ok, true)
		want(t, "points of BestPlane", len(set), 63)
		for _, found := range []impl.Plane{fit, best} {
			wantNear(t, "A of a plane that is found", float64(found.A), float64(p.A), 1e-3)
			wantNear(t, "B of a plane that is found", float64(found.B), float64(p.B), 1e-3)
			wantNear(t, "C of a plane that is found", float64(found.C), float64(p.C), 1e-3)
		}
		off, ok := impl.OffPlane(points, p)
		want(t, "OffPlane succeeds", ok, true)
		wantNear(t, "OffPlane", float64(off), 0, 1e-5)
	}
}
