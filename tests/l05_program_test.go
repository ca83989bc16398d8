package tests

import (
	"fmt"
	"testing"

	"loop.example/g01223/impl"
)

// disparityHashes are those of what another program, which follows the
// document, makes of maps, pictures and volumes of all sizes and of each kind:
// see patchyMap, made, madeVolume, nearNumber and limitsOf.
var disparityHashes = []struct {
	name   string
	hashes [patchyKinds]uint64
}{
	{"holes", [patchyKinds]uint64{0xe974f9ecf781df45, 0x037685bce77a5475, 0xd9ac87ab2a71e8b5, 0xd078f6c7c3e28c75, 0x7726b46245fc48c5, 0x673cb6d67d763d25}},
	{"range", [patchyKinds]uint64{0x4503c6cca2cc3d85, 0x40077fdb9b9e4101, 0x2a176348f267f209, 0x3a2de62525861351, 0x89ee4645f81a2515, 0x2043f6cc7a00a2a9}},
	{"mean", [patchyKinds]uint64{0x2127219b03000e25, 0xaed1be9668ea2261, 0xfe5c1daaee2fc74d, 0x297f7f717f9daac1, 0x3969bdf114deec35, 0xfa31f2271e667f1d}},
	{"counts", [patchyKinds]uint64{0xcf3d927551444455, 0xb59b2fad5539cfe5, 0x205ea2ca47cca955, 0xd590405fcdf1b965, 0x0490228c7fb97c65, 0xc1df8dd621fa0655}},
	{"round", [patchyKinds]uint64{0x46b81f39979a3175, 0xeb4ecd9e98267005, 0xf69d78b00ceb2481, 0xe170506f78292cc1, 0x4b0544190a0fb001, 0xef28e7965270b47d}},
	{"less", [patchyKinds]uint64{0x3dd35793320e9795, 0x86c93d08d7c089a1, 0x824262bea2ec85f1, 0x2ccb1eb9fed51b19, 0x70a4221ad07370f1, 0x64c63fe85ae3e535}},
	{"keep", [patchyKinds]uint64{0xae3c2e187e523699, 0x61d877cbd2c741cd, 0x72df8b1953fa261d, 0x08fab344e913cdb9, 0x81aa853b3b025ccd, 0x794f94c4838a7631}},
	{"mirror", [patchyKinds]uint64{0x2fb32c15c50573ed, 0xf7718a2223e33b91, 0x01ed232dff281c39, 0xc95bbb634fc0350d, 0x7ffe61be9a70cfb9, 0x06c3cfaff7af44b5}},
	{"check", [patchyKinds]uint64{0x736ba18f8ead711d, 0x409b55e34fe48ae1, 0xdbc935568d8d024d, 0x17abbf6a92d2c2bd, 0xd4bd748b148febf1, 0xb85bfadb3f2564c1}},
	{"checks", [patchyKinds]uint64{0x22ba2ced30055edd, 0x2e0d8886c75049e8, 0x07a95431fb1ccb5c, 0x9f6c4b20ff0581e5, 0x100635ab3039d8ed, 0x22ba2ced30055edd}},
	{"unseen", [patchyKinds]uint64{0xb535dde3d8fc9825, 0xa89a6d1cab882565, 0x91d56f443510c4e5, 0x8c5e7dec236c0615, 0xb87a0a3c65716905, 0xe8f3b9febfa698b5}},
	{"sharp", [patchyKinds]uint64{0x67a042749b515c51, 0xc17eac538536b741, 0x5c12ec723be390c5, 0xbe5688ab97446831, 0x89f01baa96c3db5d, 0x67a042749b515c51}},
	{"trust", [patchyKinds]uint64{0xa7bcbc19f1f1c07b, 0x1c88e99c8b44d729, 0xb489e81346269db0, 0x9d60d1a7b8f9e870, 0xad882564f9519a1b, 0xa7bcbc19f1f1c07b}},
	{"rows", [patchyKinds]uint64{0xa172a13c62ce433d, 0x458bf6124da63385, 0x7e6e4958935b4075, 0x2b8ec2a747a58fd5, 0xf9e8d4ec6596de05, 0x90b31cb03eca03e5}},
	{"all", [patchyKinds]uint64{0x84d26f3d161010ed, 0x74edc37d5af833c1, 0x7b1c73e3027b3699, 0xb240ef59aff0f72d, 0x488b3793f646f5d9, 0xa6b378c204eaaaad}},
	{"median", [patchyKinds]uint64{0xbf906aaaa7608a65, 0x9c966d603843d49d, 0xc22008189e955a69, 0x1ccfec6e3a6dbf8d, 0xce1899eadc3aedad, 0x014a8e444d2b3ccd}},
	{"guided", [patchyKinds]uint64{0x77727dcd8091b3a9, 0x2763421ad560ba01, 0xda67a4641cac4841, 0x8666e42a40b934cd, 0x9f1aa91ee4f73bf5, 0xe0ea85e986f97951}},
	{"patches", [patchyKinds]uint64{0x761c2d714fe9de6d, 0xe8a02c0d4b7ee6dd, 0x1b8fd34be69ebb75, 0x5e91a834d8988375, 0xbd46563f3b0db95d, 0x802a05def07cdc55}},
	{"drop", [patchyKinds]uint64{0xeecb785185bc982d, 0xf0a8c01a3a3a605d, 0x9dda55688e9ad49d, 0x27ff529601845fcd, 0x91d4a02e179cc485, 0x0a38e48e4477e079}},
	{"borders", [patchyKinds]uint64{0x13a1fa550a5d9de5, 0x767421b569660d45, 0xce88ab9d712e3405, 0x1190b95cb8042ef5, 0xb02f728a82a77295, 0x8b3d9a0ea66e1ce5}},
	{"halve", [patchyKinds]uint64{0xd7310752d2279d01, 0xc28f69dea72d329d, 0x5d308a3523c5cc25, 0x3c808308c6895ea1, 0x08c47d76641f0d2d, 0x87d5d5a0a1423b61}},
	{"double", [patchyKinds]uint64{0x004becde7469e6cd, 0x08c8f45ba4fc3061, 0x30fe501663b292dd, 0xd104dbdc84cb8091, 0xd6d952a7966511f9, 0x98a3b647bc6ddded}},
	{"near", [patchyKinds]uint64{0x8672e0cd2808b364, 0x040e7b041c492689, 0x3cbed29fc51546c5, 0x9309ae1ff96aee7c, 0xdbd9479be92dbef0, 0x1fdd7d617ab509c5}},
	{"coarse", [patchyKinds]uint64{0x36cf3216d78913cd, 0x6f71f233f46bb090, 0x89db40793b2e6a75, 0x4df6f1b9d464a104, 0x4c1a16f7d225ca25, 0x4c1a16f7d225ca25}},
}

// disparityCase is what maps of a size are made of.
type disparityCase struct {
	m, n impl.Map
	p, q impl.Picture
	v    impl.Volume
	near float32
	seed int
}

func madeDisparities(kind int, wide, high, deep int64) disparityCase {
	seed := int(wide*1000 + high*10)
	other := kind % madeKinds
	return disparityCase{
		m:    patchyMap(kind, wide, high, seed+kind),
		n:    patchyMap(kind, wide, high, seed+5+kind),
		p:    made(other, wide, high, seed+kind),
		q:    made(other, wide, high, seed+5),
		v:    madeVolume(other, wide, high, deep, seed+6),
		near: nearNumber(seed + 8),
		seed: seed,
	}
}

// counted adds a list of a length that is not known.
func (h *hasher) counted(list []int64) {
	h.word(uint32(len(list)))
	h.list(list)
}

// addTold adds what is told of values.
func (h *hasher) addTold(name string, c disparityCase) {
	switch name {
	case "holes":
		holes, ok := impl.HolesOf(c.m)
		want(h.t, "HolesOf succeeds", ok, true)
		h.word(uint32(holes))
	case "range":
		least, greatest, ok := impl.RangeOfMap(c.m)
		h.few(ok, least, greatest)
	case "mean":
		mean, ok := impl.MeanOfMap(c.m)
		h.few(ok, mean)
	case "counts":
		counts, ok := impl.CountValues(c.m, limitsOf(c.seed))
		want(h.t, "CountValues succeeds", ok, true)
		h.list(counts)
	case "unseen":
		unseen, ok := impl.UnseenOf(c.m)
		want(h.t, "UnseenOf succeeds", ok, true)
		h.counted(unseen)
	case "patches":
		patches, sizes, ok := impl.PatchesOf(c.m, c.near)
		want(h.t, "PatchesOf succeeds", ok, true)
		h.list(patches)
		h.counted(sizes)
	case "borders":
		borders, ok := impl.BordersOf(c.m, c.near)
		want(h.t, "BordersOf succeeds", ok, true)
		h.counted(borders)
	}
}

// addValues adds what becomes of values, and of those that are checked.
func (h *hasher) addValues(name string, c disparityCase) {
	switch name {
	case "round":
		h.plan(impl.RoundMap(c.m))
	case "less":
		h.plan(impl.LessMaps(c.m, c.n))
	case "keep":
		h.plan(impl.KeepMap(c.m, c.n, c.near))
	case "mirror":
		h.plan(impl.MirrorMap(c.m))
	case "check":
		h.plan(impl.CheckMaps(c.m, c.n, c.near))
		h.plan(impl.CheckMaps(c.n, c.m, 1))
	case "checks":
		h.plan(impl.ChecksOf(c.v, c.near))
		h.plan(impl.ChecksOf(c.v, 0))
	case "sharp":
		h.plan(impl.SharpMap(c.v))
		h.word(uint32(c.v.Wide))
		h.word(uint32(c.v.High))
		for i := range c.v.Wide * c.v.High {
			d, ok := impl.SharpAt(c.v, i%c.v.Wide, i/c.v.Wide)
			want(h.t, "SharpAt succeeds", ok, true)
			h.word(bitsOf(d))
		}
	case "trust":
		h.plan(impl.TrustOf(c.v))
	}
}

// addMended adds maps that are filled and cleaned.
func (h *hasher) addMended(name string, c disparityCase) {
	switch name {
	case "rows":
		h.plan(impl.FillRows(c.m))
	case "all":
		m, rounds, ok := impl.FillAll(c.m)
		h.plan(m, ok)
		h.word(uint32(rounds))
	case "median":
		for reach := range int64(4) {
			h.plan(impl.MedianMap(c.m, reach))
		}
		for y := range c.m.High {
			for x := range c.m.Wide {
				median, ok := impl.MedianAt(c.m, x, y, (x+y)%4)
				h.few(ok, median)
			}
		}
	case "guided":
		for reach := range int64(4) {
			h.plan(impl.GuidedMap(c.m, c.p, reach, c.near))
		}
	case "drop":
		for _, least := range []int64{1, 2, 5} {
			h.plan(impl.DropPatches(c.m, c.near, least))
		}
	}
}

// addSizes adds maps of other sizes, and winners that they lead to.
func (h *hasher) addSizes(name string, c disparityCase) {
	switch name {
	case "halve":
		h.plan(impl.HalveMap(c.m))
	case "double":
		h.plan(impl.DoubleMap(c.m, c.m.Wide, c.m.High))
		h.plan(impl.DoubleMap(c.m, c.m.High, c.m.Wide))
		h.plan(impl.DoubleMap(c.m, 16, 16))
	case "near":
		for reach := range int64(9) {
			h.plan(impl.WinnersNear(c.v, c.m, reach))
		}
	case "coarse":
		for levels := int64(1); levels <= 4; levels++ {
			h.plan(impl.CoarseToFine(c.p, c.q, c.v.Deep, levels))
		}
	}
}

func TestDisparitiesOfAnotherProgram(t *testing.T) {
	for _, told := range disparityHashes {
		for kind := range patchyKinds {
			t.Run(fmt.Sprintf("%s of the kind %d", told.name, kind), func(t *testing.T) {
				t.Parallel()
				h := hasher{t: t, sum: 14695981039346656037}
				for _, size := range sizes() {
					for _, deep := range []int64{8, 1 + (size[0]+3*size[1])%7} {
						c := madeDisparities(kind, size[0], size[1], deep)
						h.addTold(told.name, c)
						h.addValues(told.name, c)
						h.addMended(told.name, c)
						h.addSizes(told.name, c)
					}
				}
				if h.sum != told.hashes[kind] {
					t.Errorf("got the hash %#016x, want %#016x", h.sum, told.hashes[kind])
				}
			})
		}
	}
}
