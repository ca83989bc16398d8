package tests

import (
	"math"
	"testing"

	"loop.example/g01223/impl"
)

// madeHashes are those of what another program, which follows the document,
// makes of pictures of all sizes and of each kind: see made.
var madeHashes = []struct {
	name   string
	hashes [madeKinds]uint64
}{
	{"mirror", [5]uint64{0x093ac581477e34a4, 0xe1608a1dc986b065, 0xeb3c64e726dacb02, 0xbe499e85cc3e8214, 0x652e99a3e9ca86f2}},
	{"flip", [5]uint64{0xdc2304651d901d10, 0x8da707e5ea123e65, 0x58a41f948ffb91b2, 0x01798960a4324894, 0x4e0860f46e71c832}},
	{"swap", [5]uint64{0x893e3378c5e8eafc, 0x2e3386cb2fc5cf09, 0xce2f5885cf5cbe8a, 0x60256fbcf6c8d6c4, 0x6ed7d6302faef2e6}},
	{"shift", [5]uint64{0xc7f410d787a0aaa6, 0x3bb309ffeb49bfe3, 0xe17776ee367fd073, 0x8f30b4477b129c79, 0x363ba7949ec32646}},
	{"crop", [5]uint64{0x70b6d68347d8db9a, 0x54eca48302a5114c, 0x09dfdcfe502bac23, 0xb4dc2428531f5e24, 0x52400dace5dffbb0}},
	{"double", [5]uint64{0xdfab2c8a4edb57e2, 0x0ae807f7b93fa762, 0x7b352a1d882fc932, 0xc78cf5cbaf3e2b68, 0x3539574ddc7fb7a1}},
	{"scale", [5]uint64{0x16f36ec9bdca5511, 0xeec7619fd1ce953b, 0x778c12fc6cf1c1d1, 0x32425187ea9bde0a, 0xdb6104aaf62c82f2}},
	{"less", [5]uint64{0x7b18629f3e3c0670, 0x74d4aa6071ad60e8, 0xe1e8c3227c4dcae4, 0x4e1cebbc3a60aad5, 0x337fde17116e47a8}},
	{"box", [5]uint64{0x4a7f9e21256c2604, 0x2375e21fdeafb6b6, 0x6fc384e679a62ec8, 0xeac9820c4cb53d21, 0xa33dc17c93d6b5e5}},
	{"blur", [5]uint64{0xd478aed4137b2626, 0x4d14b77899e50b7e, 0x1d75bdc1f8fc0faf, 0x99750fa8fe40ae91, 0x06d918700ee742b0}},
	{"halve", [5]uint64{0x1ff14ae2b9811558, 0x08c475e22240fcca, 0x549abda49f6acc54, 0xd7d46231035569bb, 0x341b809f2c442cfe}},
	{"pyramid", [5]uint64{0x4c1050efcb061c2d, 0x8d2d8d9c6cb1c8e5, 0xb570c2c091a3cc3e, 0x3cf2f211b6285b66, 0x141e8d44fbb51677}},
	{"slope", [5]uint64{0xe22b8d186db16e91, 0x67b4d4a056c244e6, 0xec421b1fecf95da3, 0xd17e6bf14ae3fc6c, 0x2f861322efe82dbe}},
	{"range", [5]uint64{0xe4ec9516b3e74def, 0x9a25c4c5d470ba2e, 0x7a2e820352d0395f, 0xe0fe9078cf7431f8, 0xc5bc75c1a8409cc2}},
	{"norm", [5]uint64{0xd52312eff119819b, 0xc0e6948825a82744, 0x7837cc7352f10421, 0x616b38998b90db08, 0xc35d998ea5d166c8}},
	{"unlike", [5]uint64{0x0c6a41b82910c122, 0x999c9731d9b15c71, 0xe81eda090d416e7b, 0x868c42c69f1d927a, 0xcace6abe59c21c1b}},
	{"ranks", [5]uint64{0x4fe046584cc8cb24, 0x2bc66ae49375576e, 0x04ccaa58f7c980d7, 0x78b4101654356568, 0x82f13512db149e28}},
}

// hasher takes 32-bit words, byte by byte (FNV-1a).
type hasher struct {
	t   *testing.T
	sum uint64
}

func (h *hasher) word(w uint32) {
	for range 4 {
		h.sum = (h.sum ^ uint64(w&255)) * 1099511628211
		w >>= 8
	}
}

func (h *hasher) picture(p impl.Picture, ok bool) {
	h.t.Helper()
	want(h.t, "function succeeds", ok, true)
	h.word(uint32(p.Wide))
	h.word(uint32(p.High))
	for _, grey := range p.Greys {
		h.word(bitsOf(grey))
	}
}

func (h *hasher) pictures(list []impl.Picture, ok bool) {
	h.t.Helper()
	for _, p := range list {
		h.picture(p, ok)
	}
}

// few are numbers that a function returns beside whether it succeeds.
func (h *hasher) few(ok bool, list ...float32) {
	h.word(map[bool]uint32{true: 1}[ok])
	for _, x := range list {
		h.word(bitsOf(x))
	}
}

// addPlaces adds what becomes of p where cells change their places.
func (h *hasher) addPlaces(name string, p impl.Picture) {
	switch name {
	case "mirror":
		h.picture(impl.MirrorPicture(p))
	case "flip":
		h.picture(impl.FlipPicture(p))
	case "swap":
		h.picture(impl.SwapPicture(p))
	case "shift":
		for by := int64(-24); by <= 24; by++ {
			h.picture(impl.ShiftPicture(p, by))
		}
	case "crop":
		x, y := p.Wide/3, p.High/4
		h.picture(impl.CropPicture(p, x, y, (p.Wide-x+1)/2, (p.High-y+2)/3))
	case "double":
		h.picture(impl.DoublePicture(p, p.Wide, p.High))
		h.picture(impl.DoublePicture(p, p.High, p.Wide))
	}
}

// addGreys adds what becomes of p, and in some cases of q, where greys change.
func (h *hasher) addGreys(name string, p, q impl.Picture) {
	switch name {
	case "scale":
		h.picture(impl.ScalePicture(p, q.Greys[0], q.Greys[len(q.Greys)-1]))
	case "less":
		h.picture(impl.LessPictures(p, q))
	case "box":
		for reach := range int64(4) {
			h.picture(impl.BoxPicture(p, reach))
		}
	case "blur":
		for rounds := range int64(9) {
			h.picture(impl.BlurPicture(p, rounds))
		}
	case "halve":
		h.picture(impl.HalvePicture(p))
	case "pyramid":
		h.pictures(impl.PyramidOf(p, 5))
	case "slope":
		h.picture(impl.SlopePicture(p))
	}
}

// addNumbers adds what is told of p, and in some cases of q.
func (h *hasher) addNumbers(name string, p, q impl.Picture) {
	switch name {
	case "range":
		least, greatest, ok := impl.RangeOf(p)
		h.few(ok, least, greatest)
	case "norm":
		norm, ok := impl.NormPicture(p)
		h.few(ok)
		if ok {
			h.picture(norm, ok)
		}
	case "unlike":
		count, ok := impl.CountUnlike(p, q, float32(math.Abs(float64(q.Greys[0]))))
		want(h.t, "CountUnlike succeeds", ok, true)
		h.word(uint32(count))
	case "ranks":
		for reach := int64(1); reach <= 2; reach++ {
			ranks, ok := impl.RanksOf(p, reach)
			want(h.t, "RanksOf succeeds", ok, true)
			for _, rank := range ranks {
				h.word(uint32(rank))
			}
		}
	}
}

func TestPicturesOfAnotherProgram(t *testing.T) {
	for _, c := range madeHashes {
		for kind := range madeKinds {
			h := hasher{t: t, sum: 14695981039346656037}
			for _, size := range sizes() {
				seed := int(size[0]*1000 + size[1]*10)
				p := made(kind, size[0], size[1], seed+kind)
				q := made(kind, size[0], size[1], seed+5)
				h.addPlaces(c.name, p)
				h.addGreys(c.name, p, q)
				h.addNumbers(c.name, p, q)
			}
			if h.sum != c.hashes[kind] {
				t.Errorf("%s of the kind %d: got the hash %#016x, want %#016x", c.name, kind, h.sum, c.hashes[kind])
			}
		}
	}
}
