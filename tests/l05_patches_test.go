package tests

import (
	"fmt"
	"math"
	"slices"
	"testing"

	"loop.example/g01223/impl"
)

// patchCases are maps, as what differences are at most, their patches, the
// numbers of cells of these, and the cells at borders.
var patchCases = []struct {
	what                    string
	m                       impl.Map
	near                    float32
	patches, sizes, borders []int64
}{
	{"the given one", mapOf(4, 1, -1, 3, 2), 1, []int64{0, -1, 1, 1}, []int64{1, 2}, nil},
	{"the given one, closer", mapOf(4, 1, -1, 3, 2), 0.5, []int64{0, -1, 1, 2}, []int64{1, 1, 1}, []int64{2, 3}},
	{"a row", mapOf(4, 1, 1, 5, 5), 0, []int64{0, 0, 1, 1}, []int64{2, 2}, []int64{1, 2}},
	{"a column", mapOf(1, 1, 1, 5, 5), 0, []int64{0, 0, 1, 1}, []int64{2, 2}, []int64{1, 2}},
	{"one cell", mapOf(1, 7), 0, []int64{0}, []int64{1}, nil},
	{"one hole", mapOf(1, -7), 9, []int64{-1}, nil, nil},
	{"holes", mapAt(2, bitsHole, nanBits, bitsLess, 0xbe800000), 9, []int64{-1, -1, -1, -1}, nil, nil},
	{"steps of 1", mapOf(5, 0, 1, 2, 3, 4), 1, []int64{0, 0, 0, 0, 0}, []int64{5}, nil},
	{"steps of 1 that are too great", mapOf(5, 0, 1, 2, 3, 4), 0.99999994, []int64{0, 1, 2, 3, 4}, []int64{1, 1, 1, 1, 1}, []int64{0, 1, 2, 3, 4}},
	{"corners", mapOf(2, 1, 5, 5, 1), 0, []int64{0, 1, 2, 3}, []int64{1, 1, 1, 1}, []int64{0, 1, 2, 3}},
	{"corners and holes", mapOf(2, 1, -1, -1, 1), 9, []int64{0, -1, -1, 1}, []int64{1, 1}, nil},
	{"the end of a row and the next row", mapOf(2, -1, 1, 1, -1), 9, []int64{-1, 0, 1, -1}, []int64{1, 1}, nil},
	{"a way around", mapOf(3, 1, 9, 2, 1, 9, 2, 1, 2, 2), 1, []int64{0, 1, 0, 0, 1, 0, 0, 0, 0}, []int64{7, 2}, []int64{0, 1, 2, 3, 4, 5, 7}},
	{"a way from below", mapOf(3, 1, -1, 1, 1, 1, 1, -1, 1, -1), 0, []int64{0, -1, 0, 0, 0, 0, -1, 0, -1}, []int64{6}, nil},
	{"a ring and its middle", mapOf(3, 1, 1, 1, 1, 7, 1, 1, 1, 1), 0, []int64{0, 0, 0, 0, 1, 0, 0, 0, 0}, []int64{8, 1}, []int64{1, 3, 4, 5, 7}},
	{"three patches in the order of their first cells", mapOf(3, 7, 7, 1, 4, 7, 1, 4, 4, 1), 0, []int64{0, 0, 1, 2, 0, 1, 2, 2, 1}, []int64{3, 3, 3}, []int64{0, 1, 2, 3, 4, 5, 7, 8}},
	{"a patch whose first cell is late", mapOf(3, 1, 5, 1, 5, 5, 1, 1, 1, 1), 0, []int64{0, 1, 2, 1, 1, 2, 2, 2, 2}, []int64{1, 3, 5}, []int64{0, 1, 2, 3, 4, 5, 6, 7}},
	{"near less than 0", mapOf(3, 1, 1, 1), -1, []int64{0, 1, 2}, []int64{1, 1, 1}, []int64{0, 1, 2}},
	{"near -0", mapOf(3, 1, 1, 2), at(bitsNull), []int64{0, 0, 1}, []int64{2, 1}, []int64{1, 2}},
	{"near not-a-number", mapOf(3, 1, -1, 1), at(nanBits), []int64{0, -1, 1}, []int64{1, 1}, nil},
	{"near not-a-number in a row", mapOf(2, 1, 1), at(nanBits), []int64{0, 1}, []int64{1, 1}, []int64{0, 1}},
	{"near infinity", mapAt(3, bitsOne, bitsInf, bitsOne), at(bitsInf), []int64{0, 0, 0}, []int64{3}, nil},
	{"infinities", mapAt(3, bitsInf, bitsInf, bitsOne), at(bitsInf), []int64{0, 1, 1}, []int64{1, 2}, []int64{0, 1}},
	{"an infinity", mapAt(3, bitsOne, bitsInf, bitsOne), at(bitsMost), []int64{0, 1, 2}, []int64{1, 1, 1}, []int64{0, 1, 2}},
	{"zeros of both signs", mapAt(3, bitsNull, 0, bitsNull), 0, []int64{0, 0, 0}, []int64{3}, nil},
	{"-0 and what is barely less than 0", mapAt(3, bitsNull, 0x80000001, 0), 1, []int64{0, -1, 1}, []int64{1, 1}, nil},
	{"rounded differences", mapAt(2, bitsOne, 0x33000000), 1, []int64{0, 0}, []int64{2}, nil},
	{"subnormal differences", mapAt(3, 1, 2, 4), at(1), []int64{0, 0, 1}, []int64{2, 1}, []int64{1, 2}},
}

func TestPatchesOf(t *testing.T) {
	for _, c := range patchCases {
		patches, sizes, ok := impl.PatchesOf(c.m, c.near)
		wantList(t, "PatchesOf "+c.what, patches, ok, c.patches...)
		wantList(t, "sizes of PatchesOf "+c.what, sizes, ok, c.sizes...)
		borders, ok := impl.BordersOf(c.m, c.near)
		wantList(t, "BordersOf "+c.what, borders, ok, c.borders...)
	}
}

func TestDropPatches(t *testing.T) {
	for _, c := range patchCases {
		for _, least := range []int64{math.MinInt64, -1, 0, 1, 2, 3, 4, 8, 9, math.MaxInt64} {
			wanted := impl.Map{Wide: c.m.Wide, High: c.m.High, Values: slices.Clone(c.m.Values)}
			for i, patch := range c.patches {
				if patch >= 0 && c.sizes[patch] < least {
					wanted.Values[i] = -1
				}
			}
			got, ok := impl.DropPatches(c.m, c.near, least)
			wantMap(t, fmt.Sprint("DropPatches of fewer than ", least, " cells of ", c.what), got, ok, wanted)
		}
	}
	got, ok := impl.DropPatches(mapOf(4, 1, -1, 3, 2), 1, 2)
	wantMap(t, "DropPatches", got, ok, mapOf(4, -1, -1, 3, 2))
	// Holes are in no patch, and stay as they are.
	holes := mapAt(4, bitsLess, nanBits, 0xbe800000, bitsNull)
	got, ok = impl.DropPatches(holes, 1, 9)
	wantMap(t, "DropPatches beside holes", got, ok, mapAt(4, bitsLess, nanBits, 0xbe800000, bitsHole))
	for _, size := range sizes() {
		flat, _ := impl.FlatMap(size[0], size[1], 3)
		cells := size[0] * size[1]
		got, ok := impl.DropPatches(flat, 0, cells)
		wantMap(t, "DropPatches of all cells", got, ok, flat)
		none, _ := impl.FlatMap(size[0], size[1], -1)
		got, ok = impl.DropPatches(flat, 0, cells+1)
		wantMap(t, "DropPatches of more than all cells", got, ok, none)
	}
}

// winding returns the map of a way that winds through all cells: each value is
// 1 more than the one before, and those of the next row are far away but at the
// turns.
func winding(wide, high int64) impl.Map {
	m := impl.Map{Wide: wide, High: high, Values: make([]float32, wide*high)}
	for i := range m.Values {
		x, y := int64(i)%wide, int64(i)/wide
		if y%2 == 1 {
			x = wide - 1 - x
		}
		m.Values[i] = float32(x + y*wide)
	}
	return m
}

func TestPatchesOverManyCells(t *testing.T) {
	for _, size := range sizes() {
		cells := size[0] * size[1]
		patches, sizes, ok := impl.PatchesOf(winding(size[0], size[1]), 1)
		wantList(t, "PatchesOf a way", patches, ok, make([]int64, cells)...)
		wantList(t, "sizes of PatchesOf a way", sizes, ok, cells)
		// Where all values are unlike, each cell is a patch.
		patches, sizes, ok = impl.PatchesOf(winding(size[0], size[1]), 0.5)
		var numbers, ones []int64
		for i := range cells {
			numbers, ones = append(numbers, i), append(ones, 1)
		}
		wantList(t, "PatchesOf unlike cells", patches, ok, numbers...)
		wantList(t, "sizes of PatchesOf unlike cells", sizes, ok, ones...)
		borders, ok := impl.BordersOf(winding(size[0], size[1]), 0.5)
		if cells == 1 {
			numbers = nil
		}
		wantList(t, "BordersOf unlike cells", borders, ok, numbers...)
	}
	// A spiral of holes leaves a spiral of values.
	spiral := mapOf(7,
		1, 1, 1, 1, 1, 1, 1,
		-1, -1, -1, -1, -1, -1, 1,
		1, 1, 1, 1, 1, -1, 1,
		1, -1, -1, -1, 1, -1, 1,
		1, -1, 1, 1, 1, -1, 1,
		1, -1, -1, -1, -1, -1, 1,
		1, 1, 1, 1, 1, 1, 1)
	patches, sizes, ok := impl.PatchesOf(spiral, 0)
	want(t, "PatchesOf a spiral succeeds", ok, true)
	for i, value := range spiral.Values {
		want(t, "PatchesOf a spiral", patches[i], int64(min(value, 0)))
	}
	wantList(t, "sizes of PatchesOf a spiral", sizes, ok, 31)
}

// The patches of each map are told by its cells: those beside one another that
// hang together have the same number, numbers grow, and sizes are right.
func TestPatchesAgree(t *testing.T) {
	for i, size := range sizes() {
		m := patchyMap(i%patchyKinds, size[0], size[1], i)
		near := nearNumber(i)
		patches, sizes, ok := impl.PatchesOf(m, near)
		want(t, "PatchesOf succeeds", ok, true)
		want(t, "number of PatchesOf", int64(len(patches)), size[0]*size[1])
		borders, ok := impl.BordersOf(m, near)
		want(t, "BordersOf succeeds", ok, true)
		counts := make([]int64, len(sizes))
		next := int64(0)
		for k, patch := range patches {
			want(t, "PatchesOf of a hole", patch == -1, isHole(m.Values[k]))
			if patch >= 0 {
				counts[patch]++
			}
			if patch > next {
				t.Errorf("PatchesOf: got the patch %d before %d", patch, next)
			}
			next = max(next, patch+1)
			want(t, "BordersOf", slices.Contains(borders, int64(k)), atBorder(t, m, patches, near, int64(k)))
		}
		wantList(t, "sizes of PatchesOf", sizes, ok, counts...)
		want(t, "BordersOf is a set", slices.IsSorted(borders), true)
	}
}

// atBorder reports whether a cell is at a border, and checks that the cells
// beside it with which it hangs together are in its patch.
func atBorder(t *testing.T, m impl.Map, patches []int64, near float32, cell int64) bool {
	t.Helper()
	in := false
	x, y := cell%m.Wide, cell/m.Wide
	for _, step := range steps[:4] {
		u, v := x+step[0], y+step[1]
		if u < 0 || v < 0 || u >= m.Wide || v >= m.High {
			continue
		}
		other := u + m.Wide*v
		a, b := m.Values[cell], m.Values[other]
		if isHole(a) || isHole(b) {
			continue
		}
		if a-b <= near && b-a <= near {
			want(t, "patch of a cell that hangs together with another one", patches[cell], patches[other])
		} else {
			in = true
		}
	}
	return in
}
