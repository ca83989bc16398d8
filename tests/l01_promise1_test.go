package tests

import (
	"math"
	"slices"
	"strings"
	"testing"

	"loop.example/g01223/impl"
)

// The tests of this file check promise 1 for chapter 1: every function returns
// for all arguments, modifies no argument, and returns equal results for equal
// arguments.

// wantTwice calls a function twice and compares the bits of the results.
func wantTwice(t *testing.T, what string, f func() float32) {
	t.Helper()
	if a, b := bitsOf(f()), bitsOf(f()); a != b {
		t.Errorf("%s: got %#08x, and then %#08x", what, a, b)
	}
}

func TestFunctionsOfOneNumberReturn(t *testing.T) {
	functions := map[string]func(float32) float32{
		"NextUp": impl.NextUp, "NextDown": impl.NextDown, "FlushNumber": impl.FlushNumber,
		"ExpNumber": impl.ExpNumber, "LogNumber": impl.LogNumber, "RootNumber": impl.RootNumber,
		"SineTurns": impl.SineTurns,
	}
	all := slices.Clone(specialBits)
	for i := range 65536 {
		all = append(all, wideBits(i)+uint32(i%7))
	}
	for _, bits := range all {
		x := at(bits)
		for name, f := range functions {
			wantTwice(t, name, func() float32 { return f(x) })
			if x != x && f(x) == f(x) {
				t.Errorf("%s of a not-a-number %#08x is a number", name, bits)
			}
		}
		want(t, "IsFinite", impl.IsFinite(x), impl.IsFinite(x))
		want(t, "IsSubnormal", impl.IsSubnormal(x), impl.IsSubnormal(x))
		want(t, "BitsOf", impl.BitsOf(x), impl.BitsOf(x))
	}
}

// The bits of a not-a-number never show in a result.
func TestNotANumbersAreOneValue(t *testing.T) {
	for _, bits := range []uint32{0xffc00000, 0x7f800001, 0xff800001, 0x7fffffff, 0xffffffff, 0x7fa55555} {
		x, one := at(bits), at(nanBits)
		want(t, "BitsOf", impl.BitsOf(x), impl.BitsOf(one))
		want(t, "SameNumber", impl.SameNumber(x, one), true)
		want(t, "SameVector", impl.SameVector(impl.Vector{Y: x}, impl.Vector{Y: one}), true)
		want(t, "VectorText", impl.VectorText(impl.Vector{Z: x}), impl.VectorText(impl.Vector{Z: one}))
		a, _ := impl.NumbersText([]float32{x})
		b, _ := impl.NumbersText([]float32{one})
		want(t, "NumbersText", a, b)
	}
}

func TestFunctionsOfTwoNumbersReturn(t *testing.T) {
	for _, a := range specialBits {
		for _, b := range specialBits {
			x, y := at(a), at(b)
			want(t, "SameNumber", impl.SameNumber(x, y), bitsOf(x) == bitsOf(y))
			wantTwice(t, "AngleTurns", func() float32 { return impl.AngleTurns(y, x) })
			v := impl.Vector{X: x, Y: y, Z: x}
			w := impl.Vector{X: y, Y: y, Z: x}
			wantTwice(t, "InnerOf", func() float32 { return impl.InnerOf(v, w) })
			wantTwice(t, "LongOf", func() float32 { return impl.LongOf(v) })
			for name, f := range map[string]func() impl.Vector{
				"AddVectors":     func() impl.Vector { return impl.AddVectors(v, w) },
				"LessVectors":    func() impl.Vector { return impl.LessVectors(v, w) },
				"ScaleVector":    func() impl.Vector { return impl.ScaleVector(v, y) },
				"CrossOf":        func() impl.Vector { return impl.CrossOf(v, w) },
				"BetweenVectors": func() impl.Vector { return impl.BetweenVectors(v, w, y) },
			} {
				want(t, name, bitsOfVector(f()), bitsOfVector(f()))
			}
			back, ok := impl.ReadVector(impl.VectorText(v))
			want(t, "ReadVector succeeds", ok, true)
			want(t, "SameVector", impl.SameVector(v, back), true)
			want(t, "SameVector", impl.SameVector(v, w), bitsOf(x) == bitsOf(y))
		}
	}
}

func TestNarrowNumberReturns(t *testing.T) {
	for i := range 65536 {
		x := math.Float64frombits(uint64(i)<<48 | uint64(i)*2654435761)
		wantTwice(t, "NarrowNumber", func() float32 { return impl.NarrowNumber(x) })
	}
}

// within returns a list with unused capacity before its end, and the whole
// array that it is a part of.
func within(list []float32) ([]float32, []float32) {
	array := append([]float32{-7}, list...)
	array = append(array, 11, 12, 13)
	return array[1 : 1+len(list)], array
}

func TestListsAreNotModified(t *testing.T) {
	for _, count := range []int{0, 1, 2, 3, 7, 64, 255, 256, 257, 2000} {
		a, arrayA := within(parts(count))
		b, arrayB := within(reversed(parts(count)))
		keptA, keptB := bitsOfList(arrayA), bitsOfList(arrayB)
		for range 2 {
			impl.SumNumbers(a)
			impl.SumPairs(a)
			impl.DotNumbers(a, b)
			impl.DotWide(a, b)
			impl.NumbersText(a)
		}
		wantTwice(t, "SumNumbers", func() float32 { x, _ := impl.SumNumbers(a); return x })
		wantTwice(t, "SumPairs", func() float32 { x, _ := impl.SumPairs(a); return x })
		wantTwice(t, "DotNumbers", func() float32 { x, _ := impl.DotNumbers(a, b); return x })
		wantTwice(t, "DotWide", func() float32 { x, _ := impl.DotWide(a, b); return x })
		want(t, "first list is as it was", slices.Equal(keptA, bitsOfList(arrayA)), true)
		want(t, "second list is as it was", slices.Equal(keptB, bitsOfList(arrayB)), true)
	}
	array := []int64{9, 1, 2, 3, 8}
	impl.ListText(array[1:4])
	want(t, "list of integers is as it was", slices.Equal(array, []int64{9, 1, 2, 3, 8}), true)
}

func TestSumsOfSpecialNumbersReturn(t *testing.T) {
	list := listOf(specialBits...)
	for i := range len(list) + 1 {
		a := list[i:]
		b := reversed(a)
		wantTwice(t, "SumNumbers", func() float32 { x, _ := impl.SumNumbers(a); return x })
		wantTwice(t, "SumPairs", func() float32 { x, _ := impl.SumPairs(a); return x })
		wantTwice(t, "DotNumbers", func() float32 { x, _ := impl.DotNumbers(a, b); return x })
		wantTwice(t, "DotWide", func() float32 { x, _ := impl.DotWide(a, b); return x })
	}
}

func TestResultsAreNewMemory(t *testing.T) {
	first, _ := impl.ReadNumbers("3f800000,40000000")
	second, _ := impl.ReadNumbers("3f800000,40000000")
	first[0] = 5
	_ = append(first[:1], 6)
	want(t, "second list of numbers", slices.Equal(second, []float32{1, 2}), true)
	third, _ := impl.ReadList("1,2")
	fourth, _ := impl.ReadList("1,2")
	third[0] = 5
	_ = append(third[:1], 6)
	want(t, "second list of integers", slices.Equal(fourth, []int64{1, 2}), true)
}

func TestReadersReturn(t *testing.T) {
	texts := []string{
		"", "none", ",", ",,,", "\x00", "\xff\xfe", "\u00e9\u4e2d", "-", "nan", "inf", "1e999",
		strings.Repeat(",", 100000), strings.Repeat("3f800000,", 100000), strings.Repeat("1,", 100000),
		strings.Repeat("9", 100000), strings.Repeat("\xff", 100000), "-" + strings.Repeat("0", 100000),
		strings.Repeat("a", 100000), strings.Repeat("none,", 1000),
	}
	for b := range 256 {
		texts = append(texts, string([]byte{byte(b)}), strings.Repeat(string([]byte{byte(b)}), 8))
	}
	for _, s := range texts {
		list, ok := impl.ReadNumbers(s)
		again, okAgain := impl.ReadNumbers(s)
		want(t, "ReadNumbers", ok && okAgain, ok || okAgain)
		want(t, "ReadNumbers", slices.Equal(bitsOfList(list), bitsOfList(again)), true)
		if text, made := impl.NumbersText(list); ok {
			want(t, "NumbersText succeeds", made, true)
			want(t, "NumbersText of ReadNumbers", text, s)
		}
		integers, ok := impl.ReadList(s)
		if text, made := impl.ListText(integers); ok {
			want(t, "ListText succeeds", made, true)
			want(t, "ListText of ReadList", text, s)
		}
		if n, ok := impl.ReadDecimal(s); ok {
			want(t, "Decimal of ReadDecimal", impl.Decimal(n), s)
		}
		if v, ok := impl.ReadVector(s); ok {
			want(t, "VectorText of ReadVector", impl.VectorText(v), s)
		}
		want(t, "IsName", impl.IsName(s), impl.IsName(s))
		check, ok := impl.CheckOf(0, s)
		want(t, "CheckOf succeeds", ok, true)
		want(t, "CheckOf is in range", 0 <= check && check < 65003, true)
	}
}

func TestIntegersReturn(t *testing.T) {
	for _, n := range []int64{math.MinInt64, math.MinInt64 + 1, -1 << 40, -65003, -1, 0, 1, 65002, 1 << 40, math.MaxInt64} {
		want(t, "Decimal", impl.Decimal(n), impl.Decimal(n))
		a, okA := impl.FromBits(n)
		b, okB := impl.FromBits(n)
		want(t, "FromBits succeeds", okA, okB)
		want(t, "FromBits", bitsOf(a), bitsOf(b))
		c, okC := impl.CheckOf(n, "eyes")
		d, okD := impl.CheckOf(n, "eyes")
		want(t, "CheckOf succeeds", okC, okD)
		want(t, "CheckOf", c, d)
		e, okE := impl.ListText([]int64{n})
		f, okF := impl.ListText([]int64{n})
		want(t, "ListText succeeds", okE, okF)
		want(t, "ListText", e, f)
	}
}
