package tests

import (
	"math"
	"slices"
	"strconv"
	"strings"
	"testing"

	"loop.example/g01223/impl"
)

func TestVectorText(t *testing.T) {
	for _, c := range []struct {
		v    impl.Vector
		text string
	}{
		{impl.Vector{X: 1}, "3f800000,00000000,00000000"},
		{impl.Vector{X: 1, Z: -2}, "3f800000,00000000,c0000000"},
		{vectorAt(bitsNull, 1, bitsInf), "80000000,00000001,7f800000"},
		{vectorAt(nanBits, nanBits, 0xff7fffff), "7fc00000,7fc00000,ff7fffff"},
	} {
		want(t, "VectorText", impl.VectorText(c.v), c.text)
		v, ok := impl.ReadVector(c.text)
		want(t, "ReadVector succeeds", ok, true)
		want(t, "ReadVector", bitsOfVector(v), bitsOfVector(c.v))
	}
	want(t, "VectorText of other not-a-numbers", impl.VectorText(vectorAt(0xffffffff, 0x7f800001, 0)), "7fc00000,7fc00000,00000000")
}

func TestTextsOfNoVector(t *testing.T) {
	for _, s := range []string{
		"", "none", "3f800000", "3f800000,00000000", "3f800000,00000000,c0000000,00000000",
		"3f800000,00000000,c0000000,", ",3f800000,00000000,c0000000", "3f800000,00000000,C0000000",
		"3f800000,00000000,7fc00001", "3f800000;00000000;c0000000", "3f800000, 0000000,c0000000",
		"3f800000,00000000,none", "3f80000000000000c0000000", "3f800000,00000000,0c0000000",
	} {
		v, ok := impl.ReadVector(s)
		want(t, "ReadVector succeeds: "+strconv.Quote(s), ok, false)
		want(t, "ReadVector: "+strconv.Quote(s), bitsOfVector(v), [3]uint32{})
	}
}

func TestNumbersText(t *testing.T) {
	for _, c := range []struct {
		list []float32
		text string
	}{
		{nil, "none"},
		{[]float32{}, "none"},
		{[]float32{1}, "3f800000"},
		{[]float32{1, -2}, "3f800000,c0000000"},
		{listOf(0, bitsNull, 1, 0x80000001, bitsInf, 0xff800000, nanBits), "00000000,80000000,00000001,80000001,7f800000,ff800000,7fc00000"},
		{listOf(0x00abcdef, 0x01234567), "00abcdef,01234567"},
	} {
		text, ok := impl.NumbersText(c.list)
		want(t, "NumbersText succeeds", ok, true)
		want(t, "NumbersText", text, c.text)
		list, ok := impl.ReadNumbers(c.text)
		want(t, "ReadNumbers succeeds", ok, true)
		if !slices.Equal(bitsOfList(list), bitsOfList(c.list)) {
			t.Errorf("ReadNumbers(%q): got %v", c.text, list)
		}
	}
	text, ok := impl.NumbersText(listOf(0xffc00000, 0x7f800001, 0xffffffff))
	want(t, "NumbersText succeeds", ok, true)
	want(t, "NumbersText of not-a-numbers", text, "7fc00000,7fc00000,7fc00000")
}

func TestNumbersTextAtTheLimit(t *testing.T) {
	list := make([]float32, 257)
	for i := range list {
		list[i] = at(wideBits(i * 255))
	}
	text, ok := impl.NumbersText(list[:256])
	want(t, "NumbersText of 256 numbers", ok, true)
	want(t, "length of the text", len(text), 256*9-1)
	back, ok := impl.ReadNumbers(text)
	want(t, "ReadNumbers of 256 numbers", ok, true)
	want(t, "ReadNumbers", slices.Equal(bitsOfList(back), bitsOfList(list[:256])), true)
	none, ok := impl.NumbersText(list)
	want(t, "NumbersText of 257 numbers", ok, false)
	want(t, "NumbersText of 257 numbers", none, "")
	back, ok = impl.ReadNumbers(text + ",3f800000")
	want(t, "ReadNumbers of 257 numbers", ok, false)
	want(t, "ReadNumbers of 257 numbers", len(back), 0)
}

func TestTextsOfNoNumbers(t *testing.T) {
	for _, s := range []string{
		"", ",", "3F800000", "3f80000", "3f8000000", "03f800000", "000000003f800000",
		"00000000000000003f800000", "3f800000,", ",3f800000", "3f800000,,3f800000",
		"3f800000 ", " 3f800000", "3f800000, 3f800000", "3f800000\n", "3f80000g", "3f80000/", "3f80000:",
		"3f80000`", "3f80000@", "0x3f8000", "+f800000", "-f800000", "3f80_000", "none,none", "None",
		"none,3f800000", "3f800000,none", "7fc00001", "ffc00000", "7f800001", "ff800001", "7fffffff",
		"ffffffff", "3f80000\x00", "\x003f80000", "3f80000\xff", "\xff\xff\xff\xff\xff\xff\xff\xff",
		"3f80000\u00e9", "\u0663f80000", "3f80000\uff11", "00000000,ffc00000",
	} {
		list, ok := impl.ReadNumbers(s)
		want(t, "ReadNumbers succeeds: "+strconv.Quote(s), ok, false)
		want(t, "ReadNumbers: "+strconv.Quote(s), len(list), 0)
	}
}

// Every byte in the place of a digit is told to be one or not.
func TestHexadecimalDigits(t *testing.T) {
	for b := range 256 {
		s := "3f8000" + string([]byte{byte(b)}) + "0"
		list, ok := impl.ReadNumbers(s)
		value := strings.IndexByte("0123456789abcdef", byte(b))
		want(t, "ReadNumbers succeeds", ok, value >= 0 && byte(b) != ',')
		if ok {
			wantBits(t, "ReadNumbers", list[0], 0x3f800000+uint32(value)*16)
		}
	}
}

func TestIsName(t *testing.T) {
	for _, s := range []string{"a", "z", "arm", "abcdefgh", "zzzzzzzz"} {
		want(t, "IsName: "+strconv.Quote(s), impl.IsName(s), true)
	}
	for _, s := range []string{
		"", "abcdefghi", "A", "aB", "a1", "a b", " a", "a ", "a\n", "\x00", "a\x00", "`", "{", "é", "a\u00e9",
		"\xe1", "a\xff", "\xc1\xa1", "_", "-a", strings.Repeat("a", 1000),
	} {
		want(t, "IsName: "+strconv.Quote(s), impl.IsName(s), false)
	}
}

func TestDecimal(t *testing.T) {
	for _, c := range []struct {
		n    int64
		text string
	}{
		{0, "0"}, {1, "1"}, {-1, "-1"}, {-4, "-4"}, {10, "10"}, {-10, "-10"}, {99, "99"},
		{1000000000000000, "1000000000000000"}, {-1000000000000000, "-1000000000000000"},
		{999999999999999, "999999999999999"},
	} {
		want(t, "Decimal", impl.Decimal(c.n), c.text)
		n, ok := impl.ReadDecimal(c.text)
		want(t, "ReadDecimal succeeds: "+strconv.Quote(c.text), ok, true)
		want(t, "ReadDecimal", n, c.n)
	}
	want(t, "Decimal of the greatest integer", impl.Decimal(math.MaxInt64), "9223372036854775807")
	want(t, "Decimal of the least integer", impl.Decimal(math.MinInt64), "-9223372036854775808")
}

func TestTextsOfNoDecimal(t *testing.T) {
	for _, s := range []string{
		"", "-", "+", "-0", "+0", "+1", "00", "01", "-01", "1_000", "0x10", "1.0", "1e3", " 1", "1 ", "1\n",
		"--1", "a", "1a", "1000000000000001", "-1000000000000001", "9223372036854775807", "9223372036854775808",
		"-9223372036854775808", "99999999999999999999999", "none", "1,2", "\u0661", "1\x00", "\xff",
	} {
		n, ok := impl.ReadDecimal(s)
		want(t, "ReadDecimal succeeds: "+strconv.Quote(s), ok, false)
		want(t, "ReadDecimal: "+strconv.Quote(s), n, 0)
	}
}

func TestListText(t *testing.T) {
	for _, c := range []struct {
		list []int64
		text string
	}{
		{nil, "none"},
		{[]int64{}, "none"},
		{[]int64{0}, "0"},
		{[]int64{3, -1, 3}, "3,-1,3"},
		{[]int64{impl.MaxValue, -impl.MaxValue}, "1000000000000000,-1000000000000000"},
	} {
		text, ok := impl.ListText(c.list)
		want(t, "ListText succeeds", ok, true)
		want(t, "ListText", text, c.text)
		list, ok := impl.ReadList(c.text)
		want(t, "ReadList succeeds: "+strconv.Quote(c.text), ok, true)
		want(t, "ReadList: "+strconv.Quote(c.text), slices.Equal(list, c.list), true)
	}
}

func TestListTextAtTheLimits(t *testing.T) {
	list := make([]int64, 65)
	for i := range list {
		list[i] = int64(i*i - 50)
	}
	text, ok := impl.ListText(list[:64])
	want(t, "ListText of 64 numbers", ok, true)
	back, ok := impl.ReadList(text)
	want(t, "ReadList of 64 numbers", ok, true)
	want(t, "ReadList of 64 numbers", slices.Equal(back, list[:64]), true)
	none, ok := impl.ListText(list)
	want(t, "ListText of 65 numbers", ok, false)
	want(t, "ListText of 65 numbers", none, "")
	back, ok = impl.ReadList(text + ",0")
	want(t, "ReadList of 65 numbers", ok, false)
	want(t, "ReadList of 65 numbers", len(back), 0)
	for _, n := range []int64{impl.MaxValue + 1, -impl.MaxValue - 1, math.MaxInt64, math.MinInt64} {
		none, ok = impl.ListText([]int64{1, n})
		want(t, "ListText of great numbers", ok, false)
		want(t, "ListText of great numbers", none, "")
	}
}

func TestTextsOfNoList(t *testing.T) {
	for _, s := range []string{
		"", ",", "1,", ",1", "1,,2", "1, 2", "1 ,2", " 1", "01", "1,-0", "+1", "none,1", "1,none", "none,none",
		"NONE", "1;2", "1000000000000001", "0,-1000000000000001", "1,2\n", "1,\x00", "9223372036854775808",
	} {
		list, ok := impl.ReadList(s)
		want(t, "ReadList succeeds: "+strconv.Quote(s), ok, false)
		want(t, "ReadList: "+strconv.Quote(s), len(list), 0)
	}
}

func TestCheckOf(t *testing.T) {
	all := make([]byte, 256)
	for i := range all {
		all[i] = byte(i)
	}
	for _, c := range []struct {
		start int64
		s     string
		want  int64
	}{
		{0, "", 0},
		{65002, "", 65002},
		{0, "a", 156},
		{1, "a", 883},
		{0, "\x00", 59},
		{0, "\xff", 314},
		{65002, "\x00", 64335},
		{0, "ab", 48566},
		{0, "ba", 49292},
		{0, "\u00e9", 54880},
		{7, string(all), 10359},
	} {
		got, ok := impl.CheckOf(c.start, c.s)
		want(t, "CheckOf succeeds", ok, true)
		want(t, "CheckOf: "+strconv.Quote(c.s), got, c.want)
	}
	for _, start := range []int64{-1, 65003, 65004, math.MinInt64, math.MaxInt64} {
		for _, s := range []string{"", "a"} {
			got, ok := impl.CheckOf(start, s)
			want(t, "CheckOf succeeds", ok, false)
			want(t, "CheckOf", got, 0)
		}
	}
}

// A text can be checked in parts, where each part begins with the number of
// what stands before it.
func TestCheckOfParts(t *testing.T) {
	s := strings.Repeat("two eyes, one depth; ", 50)
	whole, _ := impl.CheckOf(5, s)
	for i := range len(s) + 1 {
		first, _ := impl.CheckOf(5, s[:i])
		both, ok := impl.CheckOf(first, s[i:])
		want(t, "CheckOf succeeds", ok, true)
		want(t, "CheckOf of parts", both, whole)
	}
}
