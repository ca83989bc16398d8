package tests

import (
	"fmt"
	"math"
	"testing"

	"loop.example/g01223/impl"
)

func TestValidPrices(t *testing.T) {
	for _, p := range []impl.Prices{
		{}, {One: 1, More: 2}, {One: 2, More: 2}, {One: 0, More: 5},
		pricesAt(bitsNull, bitsNull), pricesAt(bitsNull, 0), pricesAt(0, bitsNull), pricesAt(bitsNull, bitsOne),
		pricesAt(1, 1), pricesAt(0, 1), pricesAt(1, 2), pricesAt(bitsOne, 0x3f800001),
		pricesAt(bitsMost, bitsMost), pricesAt(0, bitsMost), pricesAt(0x007fffff, 0x00800000),
	} {
		want(t, fmt.Sprint("ValidPrices of ", p), impl.ValidPrices(p), true)
	}
	for what, p := range invalidPrices() {
		want(t, "ValidPrices: "+what, impl.ValidPrices(p), false)
	}
}

func TestPriceOf(t *testing.T) {
	p := impl.Prices{One: 1.5, More: 7}
	for a := range int64(8) {
		for b := range int64(8) {
			price, ok := impl.PriceOf(p, a, b)
			wanted := uint32(bitsSeven)
			switch {
			case a == b:
				wanted = 0
			case a == b+1 || b == a+1:
				wanted = 0x3fc00000
			}
			wantNumber(t, fmt.Sprintf("PriceOf %d and %d", a, b), price, ok, wanted)
		}
	}
	// Prices keep their signs, but staying always costs +0.
	for _, c := range []struct {
		a, b   int64
		wanted uint32
	}{{3, 3, 0}, {3, 4, bitsNull}, {4, 3, bitsNull}, {0, 7, bitsNull}, {7, 0, bitsNull}} {
		price, ok := impl.PriceOf(pricesAt(bitsNull, bitsNull), c.a, c.b)
		wantNumber(t, "PriceOf nothing", price, ok, c.wanted)
	}
	for _, pair := range [][2]int64{{0, 8}, {8, 0}, {8, 8}, {-1, 0}, {0, -1}, {-1, -1}, {7, 8}, {math.MinInt64, 0}, {0, math.MaxInt64}, {math.MinInt64, math.MaxInt64}, {math.MaxInt64, math.MaxInt64}} {
		price, ok := impl.PriceOf(p, pair[0], pair[1])
		wantNoNumber(t, fmt.Sprint("PriceOf ", pair), price, ok)
	}
	for what, bad := range invalidPrices() {
		price, ok := impl.PriceOf(bad, 0, 1)
		wantNoNumber(t, "PriceOf: "+what, price, ok)
		price, ok = impl.PriceOf(bad, 2, 2)
		wantNoNumber(t, "PriceOf staying: "+what, price, ok)
	}
}

func TestWayOf(t *testing.T) {
	for direction, step := range steps {
		x, y, ok := impl.WayOf(int64(direction))
		want(t, "WayOf succeeds", ok, true)
		want(t, fmt.Sprint("WayOf ", direction), [2]int64{x, y}, step)
	}
	for _, direction := range []int64{-1, 8, 9, -8, math.MinInt64, math.MaxInt64, 1 << 32} {
		x, y, ok := impl.WayOf(direction)
		want(t, "WayOf succeeds", ok, false)
		want(t, fmt.Sprint("WayOf ", direction), [2]int64{x, y}, [2]int64{})
	}
}

func TestMaxDirections(t *testing.T) {
	want(t, "MaxDirections", impl.MaxDirections, 8)
}
