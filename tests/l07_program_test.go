package tests

import (
	"fmt"
	"testing"

	"loop.example/g01223/impl"
)

// workHashes are those of what another program, which follows the document,
// makes of pictures and maps of all sizes and of each kind: see made, madePrices
// and packable.
var workHashes = []struct {
	name   string
	hashes [madeKinds]uint64
}{
	{"volume", [5]uint64{0x13c73cbe48f2ea44, 0x322772bc89feeaac, 0x05ff0d3901fa08ee, 0xac890af49115e706, 0xb536d7433afb2f1f}},
	{"map", [5]uint64{0xd00ddb6ea4c8317c, 0x062dde61a1d8b634, 0xd04dcc6e866d0215, 0xe1262bfc36748ed5, 0x9fbcb6a65bf0a06d}},
	{"solved", [5]uint64{0xd09378370d1f5358, 0xd56f40091ac60d89, 0xc5aa5c7aa3f77465, 0x1c666d73f10d94c0, 0xcace5e6d1173d6ec}},
	{"checks", [5]uint64{0x497beb98349df8b3, 0x6adbba1f50afd95b, 0x4cf847474c389e90, 0xe792049f7d19313f, 0xeff4e06b272c9978}},
	{"bytes", [5]uint64{0xaf573ce7380e8f4d, 0x365fec59a09367d2, 0x830afbe43a5f22bd, 0x904e282347140acf, 0x3d69e3187f0887b2}},
	{"greys", [5]uint64{0x36a7af5eba7539d6, 0x36a7af5eba7539d6, 0x36a7af5eba7539d6, 0x36a7af5eba7539d6, 0x36a7af5eba7539d6}},
	{"packed", [5]uint64{0x1b0a63394d5c0841, 0xa0f54ee7813899d2, 0xced820f44b2dc7ea, 0x836163eb4a533b0c, 0x76d95e5373d22518}},
	{"stored", [5]uint64{0x5fcea81c1aec37fc, 0xb4c33a6d135d64e1, 0xc32fc6c241865a9a, 0xc23b11abce010168, 0x9ae2a3238d311b32}},
	{"album", [5]uint64{0x3d09100e6f561c56, 0x7a6c42f0a33d6fd4, 0x714cdea5b02cfe73, 0x90ea063edd6c93b8, 0x0e008512a78782a4}},
}

// text adds the bytes of a text that a function returns.
func (h *hasher) text(s string, ok bool) {
	h.t.Helper()
	want(h.t, "function succeeds", ok, true)
	h.word(uint32(len(s)))
	for i := range len(s) {
		h.sum = (h.sum ^ uint64(s[i])) * 1099511628211
	}
}

// addJobs adds what jobs tell of two pictures.
func (h *hasher) addJobs(name string, p, q impl.Picture, j impl.Job) {
	for _, kind := range jobKinds {
		for reach := range int64(4) {
			j.Kind, j.Reach, j.Solve = kind, reach, name == "solved"
			workers := 1 + (p.High+reach)%8
			switch name {
			case "volume":
				h.volume(impl.JobVolume(p, q, j))
			case "map":
				h.plan(impl.JobMap(p, q, j))
			case "solved":
				m, ok := impl.JobShared(p, q, j, workers)
				h.few(ok)
				if ok {
					h.plan(m, ok)
				}
			}
		}
	}
}

// addBytes adds the bytes of two pictures, and of maps of their size.
func (h *hasher) addBytes(name string, p, q impl.Picture, kind, seed int) {
	switch name {
	case "checks":
		for workers := int64(1); workers <= 8; workers++ {
			checks, ok := impl.TileChecks(asMap(p), workers)
			want(h.t, "TileChecks succeeds", ok, true)
			h.list(checks)
		}
	case "bytes":
		h.text(impl.GreyBytes(p))
	case "greys":
		m := maker{seed: uint32(seed)}
		var list []byte
		for range p.Greys {
			list = append(list, byte(m.next()))
		}
		greys, ok := impl.GreyPicture(string(list), p.Wide, p.High)
		want(h.t, "GreyPicture succeeds", ok, true)
		for _, grey := range greys.Greys {
			h.word(bitsOf(grey))
		}
	case "packed":
		h.text(impl.PackMap(packable(kind, p.Wide, p.High, seed+kind)))
	case "stored":
		h.text(impl.StorePicture(p))
	case "album":
		var a impl.Album
		for i := range (p.Wide + p.High) % 9 {
			page := p
			if i%2 == 1 {
				page = impl.Picture{Wide: q.High, High: q.Wide, Greys: q.Greys}
			}
			more, ok := impl.AddPicture(a, page)
			want(h.t, "AddPicture succeeds", ok, true)
			a = more
		}
		h.text(impl.StoreAlbum(a))
	}
}

func TestWorkOfAnotherProgram(t *testing.T) {
	for _, told := range workHashes {
		for kind := range madeKinds {
			t.Run(fmt.Sprintf("%s of the kind %d", told.name, kind), func(t *testing.T) {
				t.Parallel()
				h := hasher{t: t, sum: 14695981039346656037}
				for _, size := range sizes() {
					seed := int(size[0]*1000 + size[1]*10)
					p := made(kind, size[0], size[1], seed+kind)
					q := made(kind, size[0], size[1], seed+5)
					h.addJobs(told.name, p, q, impl.Job{Deep: 1 + (size[0]+3*size[1])%8, Prices: madePrices(kind, seed+8)})
					h.addBytes(told.name, p, q, kind, seed)
				}
				if h.sum != told.hashes[kind] {
					t.Errorf("got the hash %#016x, want %#016x", h.sum, told.hashes[kind])
				}
			})
		}
	}
}
