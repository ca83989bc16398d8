package tests

import (
	"hash/crc32"
	"math"
	"testing"

	"loop.example/g01223/impl"
)

// The numbers of this file were computed by another program, which follows the
// document. Some of the arguments are chosen so that one term more or less, or
// a product and a sum that are rounded only once, would change the result.

type told struct{ x, want uint32 }

func wantTold(t *testing.T, what string, f func(float32) float32, list []told) {
	t.Helper()
	for _, c := range list {
		if got := bitsOf(f(at(c.x))); got != c.want {
			t.Errorf("%s of %#08x (%v): got %#08x, want %#08x", what, c.x, at(c.x), got, c.want)
		}
	}
}

// checkOfAll returns a checksum of the results for 65536 arguments.
func checkOfAll(f func(i int) float32) uint32 {
	all := make([]byte, 0, 4*65536)
	for i := range 65536 {
		b := bitsOf(f(i))
		all = append(all, byte(b), byte(b>>8), byte(b>>16), byte(b>>24))
	}
	return crc32.ChecksumIEEE(all)
}

func wantSweeps(t *testing.T, f func(float32) float32, scale float64, ofWide, ofNear uint32) {
	t.Helper()
	want(t, "checksum over all numbers", checkOfAll(func(i int) float32 {
		return f(at(wideBits(i)))
	}), ofWide)
	want(t, "checksum over numbers near 0", checkOfAll(func(i int) float32 {
		return f(float32(float64(i-32768) / scale))
	}), ofNear)
}

func TestExpNumber(t *testing.T) {
	wantTold(t, "ExpNumber", impl.ExpNumber, []told{
		{0x00000000, 0x3f800000}, // 0.0
		{0x80000000, 0x3f800000}, // -0.0
		{0x00000001, 0x3f800000}, // 1.401298464324817e-45
		{0x80000001, 0x3f800000}, // -1.401298464324817e-45
		{0x007fffff, 0x3f800000}, // 1.1754942106924411e-38
		{0x00800000, 0x3f800000}, // 1.1754943508222875e-38
		{0x7f7fffff, 0x7f800000}, // 3.4028234663852886e+38
		{0xff7fffff, 0x00000000}, // -3.4028234663852886e+38
		{0x7f800000, 0x7f800000}, // inf
		{0xff800000, 0x00000000}, // -inf
		{0x7fc00000, 0x7fc00000}, // nan
		{0xffc00001, 0x7fc00000}, // nan
		{0x7f800001, 0x7fc00000}, // nan
		{0x3f800000, 0x402df854}, // 1.0
		{0xbf800000, 0x3ebc5ab2}, // -1.0
		{0x3f000000, 0x3fd3094c}, // 0.5
		{0x40000000, 0x40ec7326}, // 2.0
		{0x41200000, 0x46ac14ee}, // 10.0
		{0xc1200000, 0x383e6bce}, // -10.0
		{0x42b17217, 0x7f7fff84}, // 88.72283172607422
		{0x42b17218, 0x7f800000}, // 88.72283935546875
		{0xc2af0000, 0x006cb2bc}, // -87.5
		{0xc2cff0a4, 0x00000001}, // -103.97000122070312
		{0xc2cff5c3, 0x00000000}, // -103.9800033569336
		{0x43480000, 0x7f800000}, // 200.0
		{0xc3480000, 0x00000000}, // -200.0
		{0x43480001, 0x7f800000}, // 200.00001525878906
		{0xc3480001, 0x00000000}, // -200.00001525878906
		{0x4286088f, 0x6fcdbda3}, // 67.01671600341797
		{0xc2ac0052, 0x01736c63}, // -86.00062561035156
		{0x4288942b, 0x70b7a4c5}, // 68.28939056396484
		{0xc236e4b4, 0x1e832866}, // -45.72334289550781
	})
	wantSweeps(t, impl.ExpNumber, 256, 0x70738128, 0x8d4a0b03)
}

func TestLogNumber(t *testing.T) {
	wantTold(t, "LogNumber", impl.LogNumber, []told{
		{0x00000000, 0xff800000}, // 0.0
		{0x80000000, 0xff800000}, // -0.0
		{0x00000001, 0xc2ce8ed0}, // 1.401298464324817e-45
		{0x80000001, 0x7fc00000}, // -1.401298464324817e-45
		{0x007fffff, 0xc2aeac50}, // 1.1754942106924411e-38
		{0x00800000, 0xc2aeac50}, // 1.1754943508222875e-38
		{0x7f7fffff, 0x42b17218}, // 3.4028234663852886e+38
		{0xff7fffff, 0x7fc00000}, // -3.4028234663852886e+38
		{0x7f800000, 0x7f800000}, // inf
		{0xff800000, 0x7fc00000}, // -inf
		{0x7fc00000, 0x7fc00000}, // nan
		{0xffc00001, 0x7fc00000}, // nan
		{0x7f800001, 0x7fc00000}, // nan
		{0x3f800000, 0x00000000}, // 1.0
		{0xbf800000, 0x7fc00000}, // -1.0
		{0x3f400000, 0xbe934b11}, // 0.75
		{0x3fc00000, 0x3ecf991f}, // 1.5
		{0x3f000000, 0xbf317218}, // 0.5
		{0x40000000, 0x3f317218}, // 2.0
		{0x41200000, 0x40135d8e}, // 10.0
		{0x2edbe6ff, 0xc1b834f1}, // 1.000000013351432e-10
		{0x7149f2ca, 0x428a27b5}, // 1.0000000150474662e+30
		{0x402df854, 0x3f7fffff}, // 2.7182817459106445
		{0x3f3fffff, 0xbe934b13}, // 0.7499999403953552
		{0x3fbfffff, 0x3ecf991d}, // 1.4999998807907104
		{0x3f800001, 0x33ffffff}, // 1.0000001192092896
		{0x3f7fffff, 0xb3800000}, // 0.9999999403953552
		{0x3ebd3fa5, 0xbf7ec98f}, // 0.3696261942386627
		{0x3f3af7ef, 0xbea0e3b7}, // 0.7303456664085388
		{0x41178feb, 0x400fe5e7}, // 9.472636222839355
		{0x3e001062, 0xc0050d62}, // 0.125062495470047
		{0x3e004405, 0xc004f398}, // 0.12525947391986847
	})
	wantSweeps(t, impl.LogNumber, 2048, 0x4f9d7d2f, 0x98874a70)
}

func TestRootNumber(t *testing.T) {
	wantTold(t, "RootNumber", impl.RootNumber, []told{
		{0x00000000, 0x00000000}, // 0.0
		{0x80000000, 0x80000000}, // -0.0
		{0x00000001, 0x1a3504f3}, // 1.401298464324817e-45
		{0x80000001, 0x7fc00000}, // -1.401298464324817e-45
		{0x007fffff, 0x1fffffff}, // 1.1754942106924411e-38
		{0x00800000, 0x20000000}, // 1.1754943508222875e-38
		{0x7f7fffff, 0x5f7fffff}, // 3.4028234663852886e+38
		{0xff7fffff, 0x7fc00000}, // -3.4028234663852886e+38
		{0x7f800000, 0x7f800000}, // inf
		{0xff800000, 0x7fc00000}, // -inf
		{0x7fc00000, 0x7fc00000}, // nan
		{0xffc00001, 0x7fc00000}, // nan
		{0x7f800001, 0x7fc00000}, // nan
		{0x3f800000, 0x3f800000}, // 1.0
		{0xbf800000, 0x7fc00000}, // -1.0
		{0x40000000, 0x3fb504f3}, // 2.0
		{0x40400000, 0x3fddb3d7}, // 3.0
		{0x41100000, 0x40400000}, // 9.0
		{0x3e800000, 0x3f000000}, // 0.25
		{0x000116c2, 0x1e3ce4e7}, // 9.99994610111476e-41
		{0x7149f2ca, 0x58635fa9}, // 1.0000000150474662e+30
		{0x3f800001, 0x3f800000}, // 1.0000001192092896
		{0x3f7fffff, 0x3f7fffff}, // 0.9999999403953552
	})
	wantSweeps(t, impl.RootNumber, 2048, 0xba24bed4, 0xfcca9344)
}

func TestSineTurns(t *testing.T) {
	wantTold(t, "SineTurns", impl.SineTurns, []told{
		{0x00000000, 0x00000000}, // 0.0
		{0x80000000, 0x80000000}, // -0.0
		{0x00000001, 0x00000006}, // 1.401298464324817e-45
		{0x80000001, 0x80000000}, // -1.401298464324817e-45
		{0x007fffff, 0x01c90fd9}, // 1.1754942106924411e-38
		{0x00800000, 0x01c90fdb}, // 1.1754943508222875e-38
		{0x7f7fffff, 0x00000000}, // 3.4028234663852886e+38
		{0xff7fffff, 0x00000000}, // -3.4028234663852886e+38
		{0x7f800000, 0x7fc00000}, // inf
		{0xff800000, 0x7fc00000}, // -inf
		{0x7fc00000, 0x7fc00000}, // nan
		{0xffc00001, 0x7fc00000}, // nan
		{0x7f800001, 0x7fc00000}, // nan
		{0x3e800000, 0x3f800000}, // 0.25
		{0xbe800000, 0xbf800000}, // -0.25
		{0x3f000000, 0x80000000}, // 0.5
		{0xbf000000, 0x80000000}, // -0.5
		{0x3f400000, 0xbf800000}, // 0.75
		{0x3f800000, 0x00000000}, // 1.0
		{0xbf800000, 0x00000000}, // -1.0
		{0xc0000000, 0x00000000}, // -2.0
		{0x3e000000, 0x3f3504f3}, // 0.125
		{0x3dcccccd, 0x3f167918}, // 0.10000000149011612
		{0xbdcccccd, 0xbf167918}, // -0.10000000149011612
		{0x3e99999a, 0x3f737870}, // 0.30000001192092896
		{0x3f19999a, 0xbf16791a}, // 0.6000000238418579
		{0x3f666666, 0xbf16791a}, // 0.8999999761581421
		{0xbf666666, 0x3f16791a}, // -0.8999999761581421
		{0xbe99999a, 0xbf737870}, // -0.30000001192092896
		{0x0da24260, 0x0efee054}, // 1.0000000031710769e-30
		{0x8da24260, 0x80000000}, // -1.0000000031710769e-30
		{0x4640e6b6, 0xbf660f88}, // 12345.677734375
		{0x4affffff, 0x80000000}, // 8388607.5
		{0x59800000, 0x00000000}, // 4503599627370496.0
		{0xd9800000, 0x00000000}, // -4503599627370496.0
		{0x7149f2ca, 0x00000000}, // 1.0000000150474662e+30
		{0x597fffff, 0x00000000}, // 4503599358935040.0
		{0xd97fffff, 0x00000000}, // -4503599358935040.0
		{0x3e434f37, 0x3f6e7421}, // 0.19073186814785004
		{0x3e5d23f5, 0x3f7a2a88}, // 0.21595747768878937
		{0x3e800001, 0x3f800000}, // 0.2500000298023224
		{0x3e7fffff, 0x3f800000}, // 0.2499999850988388
		{0x3f000001, 0xb4c90fdb}, // 0.5000000596046448
		{0x3effffff, 0x34490fdb}, // 0.4999999701976776
	})
	wantSweeps(t, impl.SineTurns, 8191, 0x637960d8, 0xcf9becbc)
}

func TestAngleTurns(t *testing.T) {
	for _, c := range []struct{ y, x, want uint32 }{
		{0x3f800000, 0x00000000, 0x3e800000}, // 1.0 0.0
		{0x00000000, 0xc0000000, 0x3f000000}, // 0.0 -2.0
		{0xbf800000, 0x00000000, 0xbe800000}, // -1.0 0.0
		{0x00000000, 0x00000000, 0x00000000}, // 0.0 0.0
		{0x80000000, 0x00000000, 0x00000000}, // -0.0 0.0
		{0x00000000, 0x80000000, 0x00000000}, // 0.0 -0.0
		{0x80000000, 0x80000000, 0x00000000}, // -0.0 -0.0
		{0x00000000, 0x3f800000, 0x00000000}, // 0.0 1.0
		{0x80000000, 0x3f800000, 0x00000000}, // -0.0 1.0
		{0x80000000, 0xbf800000, 0x3f000000}, // -0.0 -1.0
		{0x3f800000, 0x3f800000, 0x3e000000}, // 1.0 1.0
		{0x3f800000, 0xbf800000, 0x3ec00000}, // 1.0 -1.0
		{0xbf800000, 0xbf800000, 0xbec00000}, // -1.0 -1.0
		{0xbf800000, 0x3f800000, 0xbe000000}, // -1.0 1.0
		{0x3f800000, 0x40000000, 0x3d972029}, // 1.0 2.0
		{0x40000000, 0x3f800000, 0x3e346fec}, // 2.0 1.0
		{0xbf800000, 0x40000000, 0xbd972029}, // -1.0 2.0
		{0xc0000000, 0x3f800000, 0xbe346fec}, // -2.0 1.0
		{0x40000000, 0xbf800000, 0x3ea5c80a}, // 2.0 -1.0
		{0x3f800000, 0xc0000000, 0x3eda37f6}, // 1.0 -2.0
		{0xc0000000, 0xbf800000, 0xbea5c80a}, // -2.0 -1.0
		{0xbf800000, 0xc0000000, 0xbeda37f6}, // -1.0 -2.0
		{0x40400000, 0x40800000, 0x3dd1bfae}, // 3.0 4.0
		{0x7149f2ca, 0x0da24260, 0x3e800000}, // 1.0000000150474662e+30 1.0000000031710769e-30
		{0x0da24260, 0x7149f2ca, 0x00000000}, // 1.0000000031710769e-30 1.0000000150474662e+30
		{0x00000001, 0x7f7fffff, 0x00000000}, // 1.401298464324817e-45 3.4028234663852886e+38
		{0x80000001, 0x7f7fffff, 0x80000000}, // -1.401298464324817e-45 3.4028234663852886e+38
		{0x7f7fffff, 0x00000001, 0x3e800000}, // 3.4028234663852886e+38 1.401298464324817e-45
		{0x00000001, 0x00000001, 0x3e000000}, // 1.401298464324817e-45 1.401298464324817e-45
		{0x00000001, 0x80000003, 0x3ee5c80a}, // 1.401298464324817e-45 -4.203895392974451e-45
		{0x80000001, 0xff7fffff, 0xbf000000}, // -1.401298464324817e-45 -3.4028234663852886e+38
		{0x7f800000, 0x3f800000, 0x7fc00000}, // inf 1.0
		{0x3f800000, 0x7f800000, 0x7fc00000}, // 1.0 inf
		{0xff800000, 0x00000000, 0x7fc00000}, // -inf 0.0
		{0x00000000, 0xff800000, 0x7fc00000}, // 0.0 -inf
		{0x7fc00000, 0x00000000, 0x7fc00000}, // nan 0.0
		{0x00000000, 0x7fc00000, 0x7fc00000}, // 0.0 nan
		{0x7fc00000, 0x7fc00000, 0x7fc00000}, // nan nan
		{0x3d927d3e, 0xbda95434, 0x3ec5e202}, // 0.07152794301509857 -0.08268013596534729
		{0xbf6d3581, 0x3f68f697, 0xbe0178be}, // -0.9265976548194885 0.9100126624107361
		{0x3e1905e6, 0xbe1c11bf, 0x3ec0cd96}, // 0.1494365632534027 -0.15241144597530365
		{0x3c9d8d33, 0x3c9efce2, 0x3dfe8564}, // 0.01923236809670925 0.019407693296670914
	} {
		if got := bitsOf(impl.AngleTurns(at(c.y), at(c.x))); got != c.want {
			t.Errorf("AngleTurns of %#08x and %#08x: got %#08x, want %#08x", c.y, c.x, got, c.want)
		}
	}
	want(t, "checksum over all numbers", checkOfAll(func(i int) float32 {
		return impl.AngleTurns(at(wideBits(i)), at(uint32(i)*2654435761))
	}), 0x9258cf04)
	want(t, "checksum over numbers near 0", checkOfAll(func(i int) float32 {
		return impl.AngleTurns(float32(i*7919%2001-1000), float32(int64(i)*104729%2003-1001))
	}), 0x365110bd)
}

// The functions are near those of the library, whatever their last bits are.
func TestFunctionsAreNearlyRight(t *testing.T) {
	near := func(what string, x, got float32, wanted float64) {
		if math.Abs(float64(got)-wanted) > 1e-6*math.Max(1, math.Abs(wanted)) {
			t.Errorf("%s of %v: got %v, want %v", what, x, got, wanted)
		}
	}
	for i := -4000; i <= 4000; i++ {
		x := float32(i) / 512
		wide := float64(x)
		near("ExpNumber", x, impl.ExpNumber(x), math.Exp(wide))
		near("SineTurns", x, impl.SineTurns(x), math.Sin(2*math.Pi*wide))
		near("AngleTurns", x, impl.AngleTurns(x, 1), math.Atan2(wide, 1)/(2*math.Pi))
		near("AngleTurns", x, impl.AngleTurns(-2, x), math.Atan2(-2, wide)/(2*math.Pi))
		if x > 0 {
			near("LogNumber", x, impl.LogNumber(x), math.Log(wide))
			near("RootNumber", x, impl.RootNumber(x), math.Sqrt(wide))
		}
	}
}
