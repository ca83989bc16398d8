package tests

import (
	"testing"

	"loop.example/g01223/impl"
)

// volumeHashes are those of what another program, which follows the document,
// makes of pictures, volumes and maps of all sizes and of each kind: see made,
// madeVolume and madeMap.
var volumeHashes = []struct {
	name   string
	hashes [madeKinds]uint64
}{
	{"square", [5]uint64{0xd9e8f5be93954d5d, 0x1c285e14d8dfc9c9, 0x76af4f1a37c51804, 0xdce839776259978c, 0xc4f295f67b1e9b71}},
	{"size", [5]uint64{0x786110a8007a61dd, 0xe35589632ddff50d, 0x9de6d8474c532319, 0x1d087cfcb496a94c, 0xf09994c198ac92bf}},
	{"rank", [5]uint64{0x344aa9e54fb3cf87, 0xeb9bee712086dd90, 0xe38248cc59c554cb, 0xe3e2f9f0c0a86595, 0xe704f4f03d5cdb1e}},
	{"slice", [5]uint64{0xb8d2a9b8a188f524, 0x3cebc585d8be0842, 0x9bd53cf207224253, 0x26bf1f83a8c9fc29, 0xaf4b26cba9d1ec9e}},
	{"stack", [5]uint64{0x803168aef072e28f, 0x45f6a9f28c9da34c, 0x60f4d5e475216266, 0xea14bdffe3715641, 0xeff3f447d15348bb}},
	{"mix", [5]uint64{0x46ae3af1ec488cdd, 0x59b62443e8e2bb69, 0xabe040b873421c37, 0x51c2632a40c32674, 0x76fcf839f4b13519}},
	{"cap", [5]uint64{0x83b139ea4cc02086, 0x3fec875516532d8f, 0x5f832d4c755f0a83, 0x842a02cfffa09ca5, 0x198987fa68467228}},
	{"box", [5]uint64{0x10880d4934706cac, 0x4313ec7b7f9f80f5, 0xbfcd2dca189d6b91, 0x197bab67d8067097, 0x8842f52d1f0c6aaf}},
	{"other", [5]uint64{0xbec1e125a728137d, 0x55985aa02a2ee01f, 0xd28c2e2b41a9fc2f, 0x5e4097a942611a41, 0xf415f7afaa760f4f}},
	{"shallow", [5]uint64{0xbe735010eff4e839, 0x5609a9822d025c54, 0x60838178f066ab42, 0x287e93983ac0b205, 0x5b6c3fe34ab0c23c}},
	{"winners", [5]uint64{0xf7d54fb28182df65, 0x9bc8984761da3444, 0x7bf7f3d5d96a14ac, 0x65a2b6aae2f9561d, 0xd03630ab1de91a40}},
	{"least", [5]uint64{0xf7be594aab1dd98e, 0xd548e3c9c03ecf7d, 0x7d5d3e82ba3e6da2, 0xa69a8c1c158f0c4d, 0x9256247277522abd}},
	{"margins", [5]uint64{0x6bc712b3c8b1a0b3, 0x6e9b06aa3c5364e4, 0xdd888a261d1a9d03, 0x16d836981b46830d, 0x23df3ad68078aeba}},
	{"cost", [5]uint64{0x2658ac57b6d03151, 0x13d481a887deeaf1, 0xd39e99167bb433ee, 0xd8d18475086d50a0, 0x2175ccb4fe8aca32}},
	{"warp", [5]uint64{0x816a6538c2e524e9, 0xd0b1674965addc8d, 0xab2417a2aff91621, 0x3401be880b0df5ed, 0x14a4bf00770b0f6d}},
	{"error", [5]uint64{0x24bcbea3373b53c1, 0x3a35fd0f4697f405, 0xaf73ead828abfd31, 0x270b88b4b21bbc5d, 0x3e7224cbcf4edbfd}},
	{"wrong", [5]uint64{0xc47e0bf9046fe4cd, 0x0ce612e870064755, 0xbcf467729c86dc65, 0x6a29c80c4b68c2e1, 0xbc0f01ec0020b3b9}},
}

func (h *hasher) volume(v impl.Volume, ok bool) {
	h.t.Helper()
	want(h.t, "function succeeds", ok, true)
	h.word(uint32(v.Wide))
	h.word(uint32(v.High))
	h.word(uint32(v.Deep))
	for _, cost := range v.Costs {
		h.word(bitsOf(cost))
	}
}

func (h *hasher) plan(m impl.Map, ok bool) {
	h.t.Helper()
	h.picture(asPicture(m), ok)
}

// addCosts adds what two pictures cost, for deep disparities.
func (h *hasher) addCosts(name string, p, q impl.Picture, deep int64) {
	switch name {
	case "square":
		h.volume(impl.SquareVolume(p, q, deep))
	case "size":
		h.volume(impl.SizeVolume(p, q, deep))
	case "rank":
		h.volume(impl.RankVolume(p, q, 1, deep))
		h.volume(impl.RankVolume(p, q, 2, deep))
	}
}

// addVolumes adds what becomes of v, and in some cases of u or with a number x.
func (h *hasher) addVolumes(name string, v, u impl.Volume, x float32) {
	switch name {
	case "slice":
		for d := range v.Deep {
			h.picture(impl.SliceOf(v, d))
		}
	case "mix":
		h.volume(impl.MixVolumes(v, u, x))
	case "cap":
		h.volume(impl.CapVolume(v, x))
	case "box":
		for reach := range int64(4) {
			h.volume(impl.BoxVolume(v, reach))
		}
	case "other":
		h.volume(impl.OtherVolume(v))
	case "shallow":
		for deep := range v.Deep {
			h.volume(impl.ShallowVolume(v, deep+1))
		}
	case "winners":
		h.plan(impl.WinnersOf(v))
	case "least":
		h.plan(impl.LeastCosts(v))
	case "margins":
		h.plan(impl.MarginsOf(v))
	}
}

// addMaps adds what is told of maps of a size, with pictures p and q of it.
func (h *hasher) addMaps(name string, m, truth impl.Map, v impl.Volume, p, q impl.Picture) {
	switch name {
	case "cost":
		cost, ok := impl.CostOfMap(v, m)
		h.few(ok, cost)
	case "warp":
		h.picture(impl.WarpPicture(p, m))
	case "error":
		gap, ok := impl.ErrorOf(p, q, m)
		h.few(ok, gap)
	case "wrong":
		share, ok := impl.WrongShare(m, truth, q.Greys[0])
		h.few(ok, share)
	}
}

// addAll adds all that has a name, for a kind and a size.
func (h *hasher) addAll(name string, kind int, wide, high, deep int64) {
	seed := int(wide*1000 + high*10)
	p := made(kind, wide, high, seed+kind)
	q := made(kind, wide, high, seed+5)
	v := madeVolume(kind, wide, high, deep, seed+6)
	h.addCosts(name, p, q, deep)
	h.addVolumes(name, v, madeVolume(kind, wide, high, deep, seed+7), q.Greys[0])
	h.addMaps(name, madeMap(wide, high, seed+8), madeMap(wide, high, seed+9), v, p, q)
	switch name {
	case "stack":
		var slices []impl.Picture
		for d := range deep {
			slices = append(slices, made(kind, wide, high, seed+int(d)))
		}
		h.volume(impl.StackOf(slices))
	case "warp":
		h.picture(impl.WarpPicture(made(kind, high, wide, seed+5), madeMap(wide, high, seed+8)))
	}
}

func TestVolumesOfAnotherProgram(t *testing.T) {
	for _, c := range volumeHashes {
		for kind := range madeKinds {
			h := hasher{t: t, sum: 14695981039346656037}
			for _, size := range sizes() {
				h.addAll(c.name, kind, size[0], size[1], 8)
				h.addAll(c.name, kind, size[0], size[1], 1+(size[0]+3*size[1])%7)
			}
			if h.sum != c.hashes[kind] {
				t.Errorf("%s of the kind %d: got the hash %#016x, want %#016x", c.name, kind, h.sum, c.hashes[kind])
			}
		}
	}
}
