package tests

import (
	"fmt"
	"testing"

	"loop.example/g01223/impl"
)

// sceneHashes are those of what another program, which follows the document,
// makes of scenes of all sizes and of each kind: see madeScene.
var sceneHashes = []struct {
	name   string
	hashes [patchyKinds]uint64
}{
	{"depth", [patchyKinds]uint64{0xbc1ac015feb91b7d, 0xe0d1e7889eb0f121, 0xf712d59c20801c0d, 0x91f2a14ac11d5695, 0x84f757a42fea69d9, 0x4618e76a9ce693b5}},
	{"point", [patchyKinds]uint64{0x51733b8f5bddb7a5, 0x31b4f37feda03d2d, 0x9099ee7f3c47724b, 0xc19a3da7c669fb09, 0x7c8a1f8dd8cd7e4c, 0x51d1f19d05ff9af7}},
	{"cell", [patchyKinds]uint64{0x270010d904e87402, 0x064dce14390b46f4, 0x3335eb1140012985, 0xdadc6708e71b2f27, 0x2a9db68222504156, 0x3f9b6595f575975b}},
	{"depths", [patchyKinds]uint64{0x3341d2dc9cfe09ab, 0xbdaf59705e917acd, 0xf3111f6327353169, 0x2820f65f2426176d, 0x11b07335b68811fd, 0x9e65e15d84748c5a}},
	{"points", [patchyKinds]uint64{0x89e1568b5cecb31f, 0x03bd77c4114ac26b, 0x3160d73c6234703c, 0xaabc6ff28826f7e6, 0x53743eb12995eaa2, 0xc4e360bbffec5b61}},
	{"mesh", [patchyKinds]uint64{0x5c1d8fca01f22051, 0x318dfafd28c1c9f6, 0xeb35946b0d252fcb, 0x5415408ee8fd259b, 0x172f961f4258af55, 0x16130b8955215e93}},
	{"height", [patchyKinds]uint64{0x8a61ec044d056ad8, 0xdedc22f96ea08d81, 0xa1518394856da8b6, 0x059065e8d4555ba7, 0xbbcee4513e6f5bd5, 0x38acffde5e6db32c}},
	{"through", [patchyKinds]uint64{0x0ac59a0cf946ab53, 0xeb3a7e6dde56c905, 0x6031e27cb29825b9, 0xd72ee5c17cac484e, 0xe283ebb53e89091d, 0x0ac59a0cf946ab53}},
	{"fit", [patchyKinds]uint64{0xb40221426fdffe87, 0x13e467367a2dddd6, 0x7ea49f18d47801de, 0xb6a53d03f60accfe, 0xdcf5fd05c0ba34e6, 0xb40221426fdffe87}},
	{"off", [patchyKinds]uint64{0x3182e88002db94d9, 0x9cf6e40af9c92f2a, 0x75a4b48feba28744, 0x5048b86356b00065, 0xed991842ba346b1c, 0x3182e88002db94d9}},
	{"near", [patchyKinds]uint64{0xd83328da4803610c, 0xd0be5afb85955019, 0x68296f2daaf5e9d9, 0x1a9897f356981123, 0x9e9f090d3c759a23, 0xd83328da4803610c}},
	{"best", [patchyKinds]uint64{0xf58d0fa00f5be283, 0x9a178098fcd5cf28, 0x939f253a0f986860, 0x11885fb4aa0ba6dd, 0x3937df82e76b2b31, 0xf58d0fa00f5be283}},
	{"walls", [patchyKinds]uint64{0x6c182d6ab5ba7828, 0x55045bba88d8bc2e, 0xdee6d6c650281bb5, 0x5c4996770eb192a2, 0xa4d1af61950de276, 0x6c182d6ab5ba7828}},
	{"sample", [patchyKinds]uint64{0x8a440dab6d06ed65, 0x7b8b1819d6965f15, 0x243e13e4264916f4, 0xb31b5d47f4a646f5, 0x047279f8ae6e937b, 0xf7be82eea58073c8}},
	{"times", [patchyKinds]uint64{0xa5a0d72dad8ec7ee, 0x649e805eb478975d, 0x30bd19d40aed4308, 0xe79c3a512fb768f2, 0x94a8337c7c36f29c, 0xa5a0d72dad8ec7ee}},
	{"opposite", [patchyKinds]uint64{0x1f9a7c9dd834588b, 0x97c561e062a9385f, 0x0384af91474c08b3, 0xbd4e8c5311e473b9, 0x12074775d3568e5c, 0x1f9a7c9dd834588b}},
	{"leads", [patchyKinds]uint64{0x92c7fefcd7cecbaa, 0x52e0288d32a7dadc, 0x6dec8297abce0017, 0x86758b17827e3cfb, 0xadece17286ce6a25, 0x5bd52d6d81de4566}},
	{"bend", [patchyKinds]uint64{0x7998b92d075a0d0f, 0x2e62c52946bfbff8, 0x909a7e2f5f463efd, 0x3ef2e134c8d484fd, 0x2922573136346e98, 0x0bfe4017f8e047c4}},
	{"offset", [patchyKinds]uint64{0x9a08e9e333eb7edc, 0x177ffb3d54ce6d37, 0xd0cd423594f175ac, 0x452c33ff8c7c181d, 0x45d66c6c2ba375c3, 0x1856f1a4c7451605}},
	{"back", [patchyKinds]uint64{0xdad2be0673734069, 0x07b01844fdfefff1, 0xe35f266597aed0e5, 0x2747f26a30dcff60, 0xc93aa7bebdb8dcc2, 0x8306227dc6f2a813}},
}

// vectors adds a list of a length that is not known.
func (h *hasher) vectors(list []impl.Vector) {
	h.word(uint32(len(list)))
	for _, v := range list {
		for _, bits := range bitsOfVector(v) {
			h.word(bits)
		}
	}
}

func (h *hasher) plane(p impl.Plane, ok bool) {
	h.few(ok, p.A, p.B, p.C)
}

// warp adds a warp, and nothing but that there is none if ok is false.
func (h *hasher) warp(w []float32, ok bool) {
	h.few(ok, w...)
}

// addNumbersOf adds what single numbers of a scene become.
func (h *hasher) addNumbersOf(name string, c impl.Camera, s scene) {
	for i, d := range s.m.Values {
		x, y := s.p.Greys[i], s.q.Greys[i]
		switch name {
		case "depth":
			depth, ok := impl.DepthOf(c, d)
			h.few(ok, depth)
			depth, ok = impl.DisparityOf(c, d)
			h.few(ok, depth)
		case "point":
			p, ok := impl.PointAt(c, x, y, d)
			h.few(ok, p.X, p.Y, p.Z)
		case "cell":
			u, v, e, ok := impl.CellOf(c, impl.Vector{X: x, Y: y, Z: d})
			h.few(ok, u, v, e)
		}
	}
}

// addDepths adds what a camera makes of a map.
func (h *hasher) addDepths(name string, c impl.Camera, s scene) {
	switch name {
	case "depths":
		h.plan(impl.DepthMap(c, s.m))
	case "points":
		points, cells, ok := impl.PointsOf(c, s.m)
		want(h.t, "PointsOf succeeds", ok, true)
		h.vectors(points)
		h.counted(cells)
	case "mesh":
		points, triangles, ok := impl.MeshOf(c, s.m, s.near)
		want(h.t, "MeshOf succeeds", ok, true)
		h.vectors(points)
		h.word(uint32(len(triangles)))
		for _, triangle := range triangles {
			want(h.t, "numbers of a triangle", len(triangle), 3)
			h.list(triangle)
		}
	case "walls":
		for _, p := range s.planes {
			h.plan(impl.PlaneMap(c, p, s.m.Wide, s.m.High))
		}
	}
}

// addPlanes adds what is told of points and a plane.
func (h *hasher) addPlanes(name string, points []impl.Vector, p impl.Plane, s scene) {
	count := len(points)
	switch name {
	case "through":
		for i, a := range points {
			h.plane(impl.PlaneThrough(a, points[(i+1)%count], points[(i+2+i%3)%count]))
		}
	case "off":
		for _, other := range []impl.Plane{p, s.planes[1]} {
			off, ok := impl.OffPlane(points, other)
			want(h.t, "OffPlane succeeds", ok, true)
			h.word(bitsOf(off))
		}
	case "near":
		set, ok := impl.NearPlane(points, p, s.near)
		want(h.t, "NearPlane succeeds", ok, true)
		h.counted(set)
	case "best":
		for _, near := range []float32{s.near, 0.125} {
			plane, set, ok := impl.BestPlane(points, near, int64(s.seed)*7919%2147483648, int64(1+s.seed%50))
			h.plane(plane, ok)
			h.counted(set)
		}
	}
}

// addHeights adds heights, and planes that fit best.
func (h *hasher) addHeights(name string, s scene) {
	switch name {
	case "height":
		for i, x := range s.p.Greys {
			for _, p := range s.planes {
				h.word(bitsOf(impl.HeightAt(p, x, s.q.Greys[i])))
			}
		}
	case "fit":
		for _, points := range s.points {
			h.plane(impl.FitPlane(points))
		}
	}
}

// addWarped adds what a warp makes of cells and of a picture.
func (h *hasher) addWarped(name string, w []float32, s scene) {
	switch name {
	case "opposite":
		h.warp(impl.OppositeWarp(w))
	case "leads":
		for i := range s.s {
			x, y, ok := impl.WarpPoint(w, s.p.Greys[i], s.q.Greys[i])
			h.few(ok, x, y)
			x, y, ok = impl.WarpPoint(w, s.s[i], s.t[i])
			h.few(ok, x, y)
		}
	case "bend":
		h.picture(impl.BendPicture(w, s.p))
	}
}

// addSamples adds greys between cells, products of warps, and rows that are off.
func (h *hasher) addSamples(name string, s scene) {
	switch name {
	case "sample":
		for i := range s.s {
			grey, ok := impl.SampleAt(s.p, s.q.Greys[i], s.p.Greys[i])
			h.few(ok, grey)
			grey, ok = impl.SampleAt(s.p, s.s[i], s.t[i])
			h.few(ok, grey)
		}
	case "times":
		for _, pair := range [][2]int{{0, 1}, {1, 0}, {1, 1}, {0, 0}} {
			h.warp(impl.TimesWarp(s.warps[pair[0]], s.warps[pair[1]]))
		}
	case "offset":
		for most := range int64(9) {
			rows, sum, ok := impl.RowOffset(s.p, s.q, most)
			h.few(ok, sum)
			h.word(uint32(rows))
		}
	case "back":
		for _, m := range []impl.Map{s.m, within900(s.m)} {
			left, ok := impl.BackPicture(m, s.p)
			h.few(ok)
			if ok {
				h.picture(left, ok)
			}
		}
	}
}

// within900 returns the map whose values that are greater than 900 are -1.
func within900(m impl.Map) impl.Map {
	n, _ := impl.FlatMap(m.Wide, m.High, -1)
	for i, value := range m.Values {
		if value <= 900 {
			n.Values[i] = value
		}
	}
	return n
}

func (h *hasher) addScene(name string, s scene) {
	fit, _ := impl.FitPlane(s.points[1])
	for j, c := range s.cameras {
		h.addNumbersOf(name, c, s)
		h.addDepths(name, c, s)
		h.addPlanes(name, s.points[j], [2]impl.Plane{s.planes[0], fit}[j], s)
		h.addWarped(name, s.warps[j], s)
	}
	h.addHeights(name, s)
	h.addSamples(name, s)
}

func TestCamerasOfAnotherProgram(t *testing.T) {
	for _, told := range sceneHashes {
		for kind := range patchyKinds {
			t.Run(fmt.Sprintf("%s of the kind %d", told.name, kind), func(t *testing.T) {
				t.Parallel()
				h := hasher{t: t, sum: 14695981039346656037}
				for _, size := range sizes() {
					h.addScene(told.name, madeScene(kind, size[0], size[1]))
				}
				if h.sum != told.hashes[kind] {
					t.Errorf("got the hash %#016x, want %#016x", h.sum, told.hashes[kind])
				}
			})
		}
	}
}
