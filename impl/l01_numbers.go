package impl

import (
	"math"
	"strconv"
	"strings"
)

// Limits of chapter 1.
const (
	MaxNumbers = 256
	MaxValue   = 1000000000000000
	MaxItems   = 64
	CheckSize  = 65003
)

const (
	quietBits   = 0x7fc00000 // stands for all not-a-numbers, which are one value
	signBits    = 0x80000000
	mostBits    = 0xffffffff
	numberWidth = 8 // hexadecimal digits of one number
	maxName     = 8
	emptyText   = "none"
)

// Vector has three numbers.
type Vector struct {
	X float32
	Y float32
	Z float32
}

// Products of floats stand in conversions, as some compilers would otherwise
// round a product and the sum that it is part of only once. This includes those
// that are doubled, since a compiler may add such a product to itself.

// SameNumber reports whether two numbers are the same.
func SameNumber(a, b float32) bool {
	return BitsOf(a) == BitsOf(b)
}

// IsFinite reports whether x is finite.
func IsFinite(x float32) bool {
	return math.Abs(float64(x)) <= math.MaxFloat32
}

func isNaN(x float32) bool {
	return x != x
}

func notANumber() float32 {
	return math.Float32frombits(quietBits)
}

func infinity() float32 {
	return float32(math.Inf(1))
}

// BitsOf returns the bits of a number, and the same ones for all not-a-numbers.
func BitsOf(x float32) int64 {
	if isNaN(x) {
		return quietBits
	}
	return int64(math.Float32bits(x))
}

// FromBits returns the number with the given bits.
func FromBits(n int64) (float32, bool) {
	if n < 0 || n > mostBits {
		return 0, false
	}
	return math.Float32frombits(uint32(n)), true
}

// NarrowNumber returns the nearest 32-bit number.
func NarrowNumber(x float64) float32 {
	return float32(x)
}

// NextUp returns the least number that is greater than x.
func NextUp(x float32) float32 {
	bits := math.Float32bits(x)
	switch {
	case isNaN(x) || x == infinity():
		return x
	case x == 0:
		return math.Float32frombits(1)
	case x > 0:
		return math.Float32frombits(bits + 1)
	}
	// The bits of negative numbers grow with their distance from 0, from -0 on.
	return math.Float32frombits(bits - 1)
}

// NextDown returns the greatest number that is less than x.
func NextDown(x float32) float32 {
	return -NextUp(-x)
}

// SumNumbers returns the sum from left to right.
func SumNumbers(list []float32) (float32, bool) {
	if len(list) > MaxNumbers {
		return 0, false
	}
	sum := float32(0)
	for _, x := range list {
		sum += x
	}
	return sum, true
}

// SumPairs returns the sum of both halves.
func SumPairs(list []float32) (float32, bool) {
	if len(list) > MaxNumbers {
		return 0, false
	}
	return sumHalves(list), true
}

func sumHalves(list []float32) float32 {
	switch len(list) {
	case 0:
		return 0
	case 1:
		return list[0]
	}
	middle := (len(list) + 1) / 2
	return sumHalves(list[:middle]) + sumHalves(list[middle:])
}

// DotNumbers returns the sum of products.
func DotNumbers(a, b []float32) (float32, bool) {
	return sumProducts[float32](a, b)
}

// DotWide returns the sum of products in 64 bits.
func DotWide(a, b []float32) (float32, bool) {
	sum, ok := sumProducts[float64](a, b)
	return NarrowNumber(sum), ok
}

// sumProducts adds the products of two lists, as numbers of the type T.
func sumProducts[T float32 | float64](a, b []float32) (T, bool) {
	if len(a) != len(b) || len(a) > MaxNumbers {
		return 0, false
	}
	sum := T(0)
	for i := range a {
		sum += T(T(a[i]) * T(b[i]))
	}
	return sum, true
}

// FlushNumber returns x, or a zero with its sign if it is subnormal.
func FlushNumber(x float32) float32 {
	if IsSubnormal(x) {
		return math.Float32frombits(math.Float32bits(x) & signBits)
	}
	return x
}

// IsSubnormal reports whether x is subnormal.
func IsSubnormal(x float32) bool {
	return x != 0 && math.Abs(float64(x)) < 0x1p-126
}

// ExpNumber returns the exponential function.
func ExpNumber(x float32) float32 {
	switch {
	case isNaN(x):
		return notANumber()
	case x > 200:
		return infinity()
	case x < -200:
		return 0
	}
	t := float64(x) / 256
	p := 1.0
	for k := 12.0; k >= 1; k-- {
		p = 1 + float64(t*p)/k
	}
	for range 8 {
		p = float64(p * p)
	}
	return NarrowNumber(p)
}

// LogNumber returns the logarithm.
func LogNumber(x float32) float32 {
	switch {
	case isNaN(x) || x < 0:
		return notANumber()
	case x == 0:
		return -infinity()
	case x == infinity():
		return x
	}
	near, halvings := halveNearOne(float64(x))
	s := (near - 1) / (near + 1)
	u := float64(s * s)
	q := 0.0
	for k := 25.0; k >= 1; k -= 2 {
		q = 1/k + float64(u*q)
	}
	return NarrowNumber(2*float64(s*q) + float64(halvings*0.6931471805599453))
}

// halveNearOne halves or doubles a finite number greater than 0 until it is
// at least 0.75 and less than 1.5, and returns how often it has been halved,
// less how often doubled.
func halveNearOne(x float64) (float64, float64) {
	halvings := 0.0
	for x >= 1.5 {
		x /= 2
		halvings++
	}
	for x < 0.75 {
		x *= 2
		halvings--
	}
	return x, halvings
}

// RootNumber returns the square root.
func RootNumber(x float32) float32 {
	return NarrowNumber(math.Sqrt(float64(x)))
}

// SineTurns returns the sine of some turns.
func SineTurns(x float32) float32 {
	if !IsFinite(x) {
		return notANumber()
	}
	turns := float64(x)
	if math.Abs(turns) >= 1<<52 {
		return 0
	}
	// An integer 0 has no sign: it is taken away as +0, which leaves -0 as it is.
	f := turns - float64(int64(turns))
	if f < 0 {
		f += 1
	}
	if f >= 0.5 {
		return -sineOfHalf(f - 0.5)
	}
	return sineOfHalf(f)
}

// sineOfHalf returns the sine of at most half a turn.
func sineOfHalf(f float64) float32 {
	if f > 0.25 {
		f = 0.5 - f
	}
	z := float64(f * 6.283185307179586)
	u := float64(z * z)
	p := 1.0
	for k := 8.0; k >= 1; k-- {
		p = 1 - float64(u*p)/(2*k*(2*k+1))
	}
	return NarrowNumber(float64(z * p))
}

// AngleTurns returns the angle of a point, in turns.
func AngleTurns(y, x float32) float32 {
	switch {
	case !IsFinite(x) || !IsFinite(y):
		return notANumber()
	case x == 0 && y == 0:
		return 0
	}
	angle := angleInQuarter(math.Abs(float64(y)), math.Abs(float64(x)))
	if x < 0 {
		angle = 0.5 - angle
	}
	if y < 0 {
		angle = -angle
	}
	return NarrowNumber(angle)
}

// angleInQuarter returns the angle of a point with the height a and the width
// b, both at least 0 and not both 0.
func angleInQuarter(a, b float64) float64 {
	steep := a > b
	if steep {
		a, b = b, a
	}
	t := a / b
	for range 3 {
		t /= 1 + math.Sqrt(1+float64(t*t))
	}
	u := float64(t * t)
	p := 0.0
	for k := 15.0; k >= 1; k -= 2 {
		p = 1/k - float64(u*p)
	}
	angle := 8 * float64(t*p) / 6.283185307179586
	if steep {
		return 0.25 - angle
	}
	return angle
}

// AddVectors returns the sums of numbers.
func AddVectors(a, b Vector) Vector {
	return Vector{X: a.X + b.X, Y: a.Y + b.Y, Z: a.Z + b.Z}
}

// LessVectors returns the differences of numbers.
func LessVectors(a, b Vector) Vector {
	return Vector{X: a.X - b.X, Y: a.Y - b.Y, Z: a.Z - b.Z}
}

// ScaleVector returns the products with a number.
func ScaleVector(v Vector, by float32) Vector {
	return Vector{X: float32(v.X * by), Y: float32(v.Y * by), Z: float32(v.Z * by)}
}

// InnerOf returns the sum of products.
func InnerOf(a, b Vector) float32 {
	return float32(a.X*b.X) + float32(a.Y*b.Y) + float32(a.Z*b.Z)
}

// CrossOf returns the vector across two others.
func CrossOf(a, b Vector) Vector {
	return Vector{
		X: float32(a.Y*b.Z) - float32(a.Z*b.Y),
		Y: float32(a.Z*b.X) - float32(a.X*b.Z),
		Z: float32(a.X*b.Y) - float32(a.Y*b.X),
	}
}

// LongOf returns the length of a vector.
func LongOf(v Vector) float32 {
	return RootNumber(InnerOf(v, v))
}

// BetweenVectors returns a vector between two others.
func BetweenVectors(a, b Vector, share float32) Vector {
	return AddVectors(a, ScaleVector(LessVectors(b, a), share))
}

// SameVector reports whether two vectors are the same.
func SameVector(a, b Vector) bool {
	return SameNumber(a.X, b.X) && SameNumber(a.Y, b.Y) && SameNumber(a.Z, b.Z)
}

// VectorText returns the text of a vector.
func VectorText(v Vector) string {
	return joinItems([]float32{v.X, v.Y, v.Z}, numberText)
}

// ReadVector returns the vector with the given text.
func ReadVector(s string) (Vector, bool) {
	list, ok := readItems(s, 3, readNumber)
	if !ok || len(list) != 3 {
		return Vector{}, false
	}
	return Vector{X: list[0], Y: list[1], Z: list[2]}, true
}

// NumbersText returns the text of numbers.
func NumbersText(list []float32) (string, bool) {
	if len(list) > MaxNumbers {
		return "", false
	}
	return joinItems(list, numberText), true
}

// ReadNumbers returns the numbers with the given text.
func ReadNumbers(s string) ([]float32, bool) {
	return readItems(s, MaxNumbers, readNumber)
}

// joinItems returns the text of a list whose items are written by write.
func joinItems[T any](list []T, write func(T) string) string {
	if len(list) == 0 {
		return emptyText
	}
	texts := make([]string, len(list))
	for i, item := range list {
		texts[i] = write(item)
	}
	return strings.Join(texts, ",")
}

// readItems returns the list of at most most items, each read by read, whose
// text is s.
func readItems[T any](s string, most int, read func(string) (T, bool)) ([]T, bool) {
	if s == emptyText {
		return nil, true
	}
	var list []T
	for more := true; more; {
		var text string
		text, s, more = strings.Cut(s, ",")
		item, ok := read(text)
		if !ok || len(list) == most {
			return nil, false
		}
		list = append(list, item)
	}
	return list, true
}

func numberText(x float32) string {
	digits := strconv.FormatInt(BitsOf(x), 16)
	return strings.Repeat("0", numberWidth-len(digits)) + digits
}

func readNumber(s string) (float32, bool) {
	if len(s) != numberWidth {
		return 0, false
	}
	bits := int64(0)
	for _, r := range s {
		digit, ok := hexDigit(r)
		if !ok {
			return 0, false
		}
		bits = 16*bits + digit
	}
	x, ok := FromBits(bits)
	// Most bits of not-a-numbers are those of no text.
	if !ok || BitsOf(x) != bits {
		return 0, false
	}
	return x, true
}

func hexDigit(r rune) (int64, bool) {
	switch {
	case '0' <= r && r <= '9':
		return int64(r - '0'), true
	case 'a' <= r && r <= 'f':
		return int64(r-'a') + 10, true
	}
	return 0, false
}

// IsName reports whether s is a name.
func IsName(s string) bool {
	if len(s) < 1 || len(s) > maxName {
		return false
	}
	for _, r := range s {
		if r < 'a' || r > 'z' {
			return false
		}
	}
	return true
}

// Decimal returns n in decimal.
func Decimal(n int64) string {
	return strconv.FormatInt(n, 10)
}

// ReadDecimal returns the number with the given decimal text.
func ReadDecimal(s string) (int64, bool) {
	n, err := strconv.ParseInt(s, 10, 64)
	// The parser also takes signs and zeros that no Decimal has.
	if err != nil || !isListed(n) || Decimal(n) != s {
		return 0, false
	}
	return n, true
}

// isListed reports whether n may stand in a list of integers.
func isListed(n int64) bool {
	return -MaxValue <= n && n <= MaxValue
}

// ListText returns the text of a list.
func ListText(list []int64) (string, bool) {
	if len(list) > MaxItems {
		return "", false
	}
	for _, n := range list {
		if !isListed(n) {
			return "", false
		}
	}
	return joinItems(list, Decimal), true
}

// ReadList returns the list with the given text.
func ReadList(s string) ([]int64, bool) {
	return readItems(s, MaxItems, ReadDecimal)
}

// CheckOf returns the check number of a text.
func CheckOf(start int64, s string) (int64, bool) {
	if start < 0 || start >= CheckSize {
		return 0, false
	}
	check := start
	for i := range len(s) {
		check = (727*check + int64(s[i]) + 59) % CheckSize
	}
	return check, true
}
