package tests

import (
	"math"
	"testing"

	"loop.example/g01223/impl"
)

func TestSameNumber(t *testing.T) {
	for _, c := range []struct {
		a, b uint32
		want bool
	}{
		{0x00000000, 0x00000000, true},
		{0x80000000, 0x80000000, true},
		{0x00000000, 0x80000000, false},
		{0x80000000, 0x00000000, false},
		{0x7fc00000, 0x7fc00000, true},
		{0x7fc00000, 0xffc00000, true},
		{0x7f800001, 0xffffffff, true},
		{0x7fc00000, 0x3f800000, false},
		{0x3f800000, 0x7fc00000, false},
		{0x7fc00000, 0x7f800000, false},
		{0x7f800000, 0x7f800000, true},
		{0x7f800000, 0xff800000, false},
		{0x3f800000, 0x3f800000, true},
		{0x3f800000, 0xbf800000, false},
		{0x3f800000, 0x3f800001, false},
		{0x00000001, 0x00000001, true},
		{0x00000001, 0x00000000, false},
		{0x00000001, 0x80000001, false},
	} {
		if got := impl.SameNumber(at(c.a), at(c.b)); got != c.want {
			t.Errorf("SameNumber(%#08x, %#08x): got %v", c.a, c.b, got)
		}
	}
}

func TestIsFinite(t *testing.T) {
	for _, bits := range specialBits {
		want(t, "IsFinite", impl.IsFinite(at(bits)), bits&0x7f800000 != 0x7f800000)
	}
}

func TestBitsOf(t *testing.T) {
	want(t, "BitsOf 1", impl.BitsOf(1), 1065353216)
	want(t, "BitsOf -0", impl.BitsOf(at(0x80000000)), 2147483648)
	want(t, "BitsOf the least number", impl.BitsOf(at(1)), 1)
	want(t, "BitsOf the negative infinity", impl.BitsOf(at(0xff800000)), 4286578688)
	want(t, "BitsOf the last finite number", impl.BitsOf(at(0xff7fffff)), 4286578687)
	for _, bits := range []uint32{0x7fc00000, 0xffc00000, 0x7f800001, 0xff800001, 0x7fffffff, 0xffffffff} {
		want(t, "BitsOf a not-a-number", impl.BitsOf(at(bits)), 2143289344)
	}
}

func TestFromBits(t *testing.T) {
	for i := range 65536 {
		bits := wideBits(i)
		x, ok := impl.FromBits(int64(bits))
		wantNumber(t, "FromBits", x, ok, bitsOf(at(bits)))
		want(t, "BitsOf of FromBits", impl.BitsOf(x), int64(bitsOf(at(bits))))
	}
	for _, bits := range specialBits {
		x, ok := impl.FromBits(int64(bits))
		wantNumber(t, "FromBits", x, ok, bitsOf(at(bits)))
	}
	for _, n := range []int64{-1, 4294967296, 4294967297, math.MinInt64, math.MaxInt64} {
		x, ok := impl.FromBits(n)
		wantNoNumber(t, "FromBits beyond the limits", x, ok)
	}
}

func TestNarrowNumber(t *testing.T) {
	limit := 0x1p128 - 0x1p103 // half way from the greatest number to what would follow
	for _, c := range []struct {
		x    float64
		want uint32
	}{
		{1, 0x3f800000},
		{-2.5, 0xc0200000},
		{0.1, 0x3dcccccd},
		{1 + 0x1p-24, 0x3f800000},
		{1 + 0x1p-24 + 0x1p-52, 0x3f800001},
		{1 + 0x3p-24, 0x3f800002},
		{1 + 0x3p-24 - 0x1p-52, 0x3f800001},
		{-1 - 0x3p-24, 0xbf800002},
		{0, 0x00000000},
		{math.Copysign(0, -1), 0x80000000},
		{0x1p-149, 0x00000001},
		{0x1p-150, 0x00000000},
		{-0x1p-150, 0x80000000},
		{math.Nextafter(0x1p-150, 1), 0x00000001},
		{0x3p-150, 0x00000002},
		{0x5p-150, 0x00000002},
		{1e-300, 0x00000000},
		{-1e-300, 0x80000000},
		{math.SmallestNonzeroFloat64, 0x00000000},
		{0x1p-126 - 0x1p-150, 0x00800000},
		{0x1p-126 - 0x3p-151, 0x007fffff},
		{math.MaxFloat32, 0x7f7fffff},
		{math.Nextafter(limit, 0), 0x7f7fffff},
		{limit, 0x7f800000},
		{-limit, 0xff800000},
		{-math.Nextafter(limit, 0), 0xff7fffff},
		{math.MaxFloat64, 0x7f800000},
		{-math.MaxFloat64, 0xff800000},
		{math.Inf(1), 0x7f800000},
		{math.Inf(-1), 0xff800000},
		{math.NaN(), nanBits},
		{math.Float64frombits(0xfff0000000000001), nanBits},
	} {
		wantBits(t, "NarrowNumber", impl.NarrowNumber(c.x), c.want)
	}
	for i := range 65536 {
		x := at(wideBits(i))
		wantBits(t, "NarrowNumber of a 32-bit number", impl.NarrowNumber(float64(x)), bitsOf(x))
	}
}

func TestNextUpAndDown(t *testing.T) {
	for _, c := range []struct{ x, up, down uint32 }{
		{0x00000000, 0x00000001, 0x80000001},
		{0x80000000, 0x00000001, 0x80000001},
		{0x00000001, 0x00000002, 0x00000000},
		{0x80000001, 0x80000000, 0x80000002},
		{0x007fffff, 0x00800000, 0x007ffffe},
		{0x00800000, 0x00800001, 0x007fffff},
		{0x807fffff, 0x807ffffe, 0x80800000},
		{0x3f800000, 0x3f800001, 0x3f7fffff},
		{0xbf800000, 0xbf7fffff, 0xbf800001},
		{0x3fffffff, 0x40000000, 0x3ffffffe},
		{0x7f7fffff, 0x7f800000, 0x7f7ffffe},
		{0xff7fffff, 0xff7ffffe, 0xff800000},
		{0x7f800000, 0x7f800000, 0x7f7fffff},
		{0xff800000, 0xff7fffff, 0xff800000},
		{0x7fc00000, nanBits, nanBits},
		{0xffc00000, nanBits, nanBits},
		{0x7f800001, nanBits, nanBits},
		{0xffffffff, nanBits, nanBits},
	} {
		wantBits(t, "NextUp", impl.NextUp(at(c.x)), c.up)
		wantBits(t, "NextDown", impl.NextDown(at(c.x)), c.down)
	}
	for i := range 65536 {
		x := at(wideBits(i))
		if x == 0 || x != x {
			continue
		}
		wantBits(t, "NextUp", impl.NextUp(x), bitsOf(math.Nextafter32(x, at(0x7f800000))))
		wantBits(t, "NextDown", impl.NextDown(x), bitsOf(math.Nextafter32(x, at(0xff800000))))
	}
}

func TestSubnormalNumbers(t *testing.T) {
	for _, c := range []struct {
		x, flushed uint32
		subnormal  bool
	}{
		{0x00000000, 0x00000000, false},
		{0x80000000, 0x80000000, false},
		{0x00000001, 0x00000000, true},
		{0x80000001, 0x80000000, true},
		{0x00400000, 0x00000000, true},
		{0x007fffff, 0x00000000, true},
		{0x807fffff, 0x80000000, true},
		{0x00800000, 0x00800000, false},
		{0x80800000, 0x80800000, false},
		{0x3f800000, 0x3f800000, false},
		{0xbf800000, 0xbf800000, false},
		{0x7f7fffff, 0x7f7fffff, false},
		{0x7f800000, 0x7f800000, false},
		{0xff800000, 0xff800000, false},
		{0x7fc00000, nanBits, false},
		{0xff800001, nanBits, false},
	} {
		want(t, "IsSubnormal", impl.IsSubnormal(at(c.x)), c.subnormal)
		wantBits(t, "FlushNumber", impl.FlushNumber(at(c.x)), c.flushed)
	}
}
