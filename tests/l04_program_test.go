package tests

import (
	"fmt"
	"testing"

	"loop.example/g01223/impl"
)

// pathHashes are those of what another program, which follows the document,
// makes of volumes and maps of all sizes and of each kind: see madeVolume,
// madePrices, madeWhole and payable.
var pathHashes = []struct {
	name   string
	hashes [madeKinds]uint64
}{
	{"add", [5]uint64{0x1896d577f88e6235, 0x5fb66d0a0d993507, 0x60f51fce9f9c91a3, 0xa8ee5f484b1ee5c0, 0xb2a04ab13dd33426}},
	{"times", [5]uint64{0x7a0dce1ba22dd5cb, 0x5ca6248c8350401f, 0xb818fed70a67ff40, 0xdb75732a4327fa6e, 0xc7c81fa057a69f71}},
	{"turn", [5]uint64{0x9d4079e335aa8795, 0x83529681046bcb8f, 0xf87a3f1b700fd6e6, 0x57ec9e0e7bec6608, 0xf53bad28464039c3}},
	{"jump", [5]uint64{0xa524e16262e198c9, 0xdb8c1278748c02b6, 0x606211d6980b4b28, 0x023a2d1d8f4c7065, 0x9f924e40a3326c92}},
	{"path", [5]uint64{0xa9524ce5b7a03a5b, 0x7a403fab41c5edfc, 0x23157362647118e8, 0xc0aab92b14b0cbae, 0x2cf8e6817bcd2a1e}},
	{"sum", [5]uint64{0x27f770fb0db9ef35, 0x0360ec439f9cd25e, 0x61702f23d102b403, 0x3136fa027c195c53, 0xe3f670e1fb58f947}},
	{"raw", [5]uint64{0xff9c8eb903b5690f, 0xb6c473c2fb58ea3b, 0xe1d8938c455f9bcf, 0xca614fd0151a8972, 0xd7e4b608e9bd2192}},
	{"both", [5]uint64{0xffda5ebf963a82af, 0xe8fc19b82c9b3eb4, 0x91dc8aca0194559a, 0x41b724a523dfaa7f, 0xed3104891602ea3e}},
	{"path over", [5]uint64{0x070f5ef301ecb104, 0x373b3ce21d4895c7, 0x85996fd007031526, 0x95ad644cae0936cd, 0x2cf8e6817bcd2a1e}},
	{"sum over", [5]uint64{0x9a575d46a263704c, 0x28381c2b80f01148, 0x6354820656fdd5bc, 0xd49e13c24daeb187, 0xe3f670e1fb58f947}},
	{"rowcost", [5]uint64{0xfa23afc2ca93358e, 0xe2208083be90b56e, 0xb0a7f1d32449f437, 0xbb26c3716394586a, 0x4d550af02862de20}},
	{"solve", [5]uint64{0x0895ade902f77331, 0x71fcc55d14b6843d, 0x38c4880feac8ade1, 0x90739f674dcd3711, 0xd8d234e139a2b5fa}},
	{"rows", [5]uint64{0x0d6bad63ec9a7a0c, 0x97f6f3e06f6e8eb8, 0x7eebba2ac525c26d, 0x938cd0eddea0cdbd, 0x82eaa01af6af6370}},
	{"columns", [5]uint64{0x4d9a7f4a2db82c59, 0xf79ebffaf7f58e28, 0x588ea9f4811f1bac, 0x648a0473110051c4, 0x9f429ce8576d7700}},
	{"mapcost", [5]uint64{0x50758389ae53a27a, 0x2804f3d2307087f0, 0x7f231ae5d9216ac6, 0xb79211d5f47d518e, 0x357e1a3dca4992ff}},
	{"local", [5]uint64{0xa0da7c7275fe85a1, 0xe61164ddfa1a8cf1, 0x9dca92c674b139b0, 0xcdfbe448c45b062f, 0x03404bd606c57ae1}},
	{"improve", [5]uint64{0x8faa9698ddb14261, 0x2163b3525055db11, 0x0481f6c3a1a7daa0, 0x1f12e6359311e262, 0xbbbcff56bbf967f6}},
	{"jumps", [5]uint64{0x996433141d56f7ac, 0x996433141d56f7ac, 0x996433141d56f7ac, 0x996433141d56f7ac, 0x996433141d56f7ac}},
}

// pathCase is what paths, rows and maps of a size are made of.
type pathCase struct {
	v, u   impl.Volume
	over   impl.Picture
	m      impl.Map
	prices impl.Prices
}

func madeCase(kind int, wide, high, deep int64) pathCase {
	seed := int(wide*1000 + high*10)
	return pathCase{
		v:      madeVolume(kind, wide, high, deep, seed+6),
		u:      madeVolume(kind, wide, high, deep, seed+7),
		over:   made(kind, wide, high, seed+kind),
		m:      madeWhole(wide, high, deep, seed+9),
		prices: madePrices(kind, seed+8),
	}
}

// addChanges adds what becomes of a volume as a whole.
func (h *hasher) addChanges(name string, c pathCase) {
	switch name {
	case "add":
		h.volume(impl.AddVolumes(c.v, c.u))
	case "times":
		h.volume(impl.ScaleVolume(c.v, c.prices.More))
	case "turn":
		h.volume(impl.MirrorVolume(c.v))
		h.volume(impl.FlipVolume(c.v))
		h.volume(impl.SwapVolume(c.v))
	case "jump":
		for i := int64(0); i < int64(len(c.v.Costs)); i += c.v.Deep {
			list, ok := impl.JumpCosts(c.v.Costs[i:i+c.v.Deep], c.prices)
			want(h.t, "JumpCosts succeeds", ok, true)
			for _, cost := range list {
				h.word(bitsOf(cost))
			}
		}
	case "both":
		h.volume(impl.BothWays(c.v, c.prices))
	case "sum":
		h.volume(impl.SumPaths(c.v, c.prices, 3))
		h.volume(impl.SumPaths(c.v, c.prices, 8))
	case "sum over":
		h.volume(impl.SumOver(c.v, c.prices, c.over, 3))
		h.volume(impl.SumOver(c.v, c.prices, c.over, 8))
	}
}

// addPaths adds the paths along all directions.
func (h *hasher) addPaths(name string, c pathCase) {
	for direction := range int64(8) {
		switch name {
		case "path":
			h.volume(impl.PathVolume(c.v, c.prices, direction))
		case "raw":
			h.volume(impl.RawPath(c.v, c.prices, direction))
		case "path over":
			h.volume(impl.PathOver(c.v, c.prices, c.over, direction))
		}
	}
}

// list adds the numbers of a list that a function returns.
func (h *hasher) list(list []int64) {
	for _, n := range list {
		h.word(uint32(n))
	}
}

// addRows adds what rows cost, and rows that are solved.
func (h *hasher) addRows(name string, c pathCase) {
	switch name {
	case "rowcost":
		for y := range c.v.High {
			row := make([]int64, c.v.Wide)
			for x := range row {
				row[x] = int64(c.m.Values[int64(x)+c.v.Wide*y])
			}
			cost, ok := impl.RowCost(c.v, c.prices, y, row)
			h.few(ok, cost)
		}
	case "solve":
		for y := range c.v.High {
			for _, v := range []impl.Volume{c.v, payable(c.v)} {
				row, cost, ok := impl.SolveRow(v, c.prices, y)
				h.few(ok, cost)
				h.list(row)
			}
		}
	case "rows":
		h.plan(impl.SolveRows(payable(c.v), c.prices))
	case "columns":
		h.plan(impl.SolveColumns(payable(c.v), c.prices))
	}
}

// addPlans adds what is told of a map, and maps that are improved.
func (h *hasher) addPlans(name string, c pathCase) {
	switch name {
	case "mapcost":
		cost, ok := impl.MapCost(c.v, c.prices, c.m)
		h.few(ok, cost)
	case "local":
		for y := range c.v.High {
			for x := range c.v.Wide {
				cost, ok := impl.LocalCost(c.v, c.prices, c.m, x, y, (x+y)%c.v.Deep)
				h.few(ok, cost)
			}
		}
	case "improve":
		for _, rounds := range []int64{0, 1, 3, 20} {
			m, changes, ok := impl.ImproveMap(c.v, c.prices, c.m, rounds)
			h.plan(m, ok)
			h.word(uint32(changes))
		}
	case "jumps":
		jumps, ok := impl.JumpsOf(c.v, c.m)
		want(h.t, "JumpsOf succeeds", ok, true)
		h.list(jumps)
	}
}

func TestPathsOfAnotherProgram(t *testing.T) {
	for _, told := range pathHashes {
		for kind := range madeKinds {
			t.Run(fmt.Sprintf("%s of the kind %d", told.name, kind), func(t *testing.T) {
				t.Parallel()
				h := hasher{t: t, sum: 14695981039346656037}
				for _, size := range sizes() {
					for _, deep := range []int64{8, 1 + (size[0]+3*size[1])%7} {
						c := madeCase(kind, size[0], size[1], deep)
						h.addChanges(told.name, c)
						h.addPaths(told.name, c)
						h.addRows(told.name, c)
						h.addPlans(told.name, c)
					}
				}
				if h.sum != told.hashes[kind] {
					t.Errorf("got the hash %#016x, want %#016x", h.sum, told.hashes[kind])
				}
			})
		}
	}
}
