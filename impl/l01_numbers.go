package impl

import (
	"math"
	"strconv"
	"strings"
)

// Limits of chapter 1.
const (
	MaxSamples = 256
	MaxTenths  = 2000
	MaxValue   = 1000000000000000
	MaxItems   = 64
	CheckSize  = 65003
)

// emptyText is the text of an empty list.
const emptyText = "none"

// pattern is the 32 bits of a number in the format of IEEE 754.
type pattern uint32

const (
	signBit         pattern = 0x80000000
	infinityPattern pattern = 0x7f800000
	oneNaN          pattern = 0x7fc00000
	leastNormal     pattern = 0x00800000
	leastPositive   pattern = 0x00000001
	greatestPattern pattern = 0xffffffff
)

func patternOf(x float32) pattern { return pattern(math.Float32bits(x)) }

func (p pattern) number() float32 { return math.Float32frombits(uint32(p)) }

func (p pattern) withoutSign() pattern { return p &^ signBit }

func (p pattern) hasSign() bool { return p&signBit != 0 }

func (p pattern) isNaN() bool { return p.withoutSign() > infinityPattern }

func (p pattern) isZero() bool { return p.withoutSign() == 0 }

func (p pattern) isFinite() bool { return p.withoutSign() < infinityPattern }

func (p pattern) isSubnormal() bool { return !p.isZero() && p.withoutSign() < leastNormal }

// single gives all not-a-numbers the same bits, because they are one value.
func (p pattern) single() pattern {
	if p.isNaN() {
		return oneNaN
	}
	return p
}

// SameNumber reports whether two numbers are the same.
func SameNumber(a, b float32) bool { return patternOf(a).single() == patternOf(b).single() }

// IsFinite reports whether x is neither an infinity nor a not-a-number.
func IsFinite(x float32) bool { return patternOf(x).isFinite() }

// BitsOf returns the bits of a number.
func BitsOf(x float32) int64 { return int64(patternOf(x).single()) }

// FromBits returns the number with the given bits.
func FromBits(n int64) (float32, bool) {
	if n < 0 || n > int64(greatestPattern) {
		return 0, false
	}
	return pattern(n).number(), true
}

// NarrowNumber returns the nearest 32-bit number.
func NarrowNumber(x float64) float32 { return float32(x) }

// NextUp returns the next greater number.
func NextUp(x float32) float32 {
	p := patternOf(x)
	switch {
	case p.isNaN() || p == infinityPattern:
		return x
	case p.isZero():
		return leastPositive.number()
	case p.hasSign():
		return (p - 1).number()
	}
	return (p + 1).number()
}

// NextDown returns the next lesser number.
func NextDown(x float32) float32 { return -NextUp(-x) }

// sizeOf returns a number without its sign.
func sizeOf(x float32) float32 { return patternOf(x).withoutSign().number() }

func areSamples(list []float32) bool { return len(list) <= MaxSamples }

func areSamePair(a, b []float32) bool { return len(a) == len(b) && areSamples(a) }

// SumNumbers returns the sum from left to right.
func SumNumbers(list []float32) (float32, bool) {
	if !areSamples(list) {
		return 0, false
	}
	var sum float32
	for _, x := range list {
		sum += x
	}
	return sum, true
}

// SumPairs returns the sum of both halves.
func SumPairs(list []float32) (float32, bool) {
	if !areSamples(list) {
		return 0, false
	}
	return sumOfHalves(list), true
}

func sumOfHalves(list []float32) float32 {
	switch len(list) {
	case 0:
		return 0
	case 1:
		return list[0]
	}
	middle := (len(list) + 1) / 2
	return sumOfHalves(list[:middle]) + sumOfHalves(list[middle:])
}

// DotNumbers returns the sum of products.
func DotNumbers(a, b []float32) (float32, bool) {
	if !areSamePair(a, b) {
		return 0, false
	}
	var sum float32
	for i, x := range a {
		// The conversion rounds the product, which a compiler could fuse with the sum otherwise.
		sum += float32(x * b[i])
	}
	return sum, true
}

// DotWide returns the sum of products in 64 bits.
func DotWide(a, b []float32) (float32, bool) {
	if !areSamePair(a, b) {
		return 0, false
	}
	var sum float64
	for i, x := range a {
		sum += float64(float64(x) * float64(b[i]))
	}
	return NarrowNumber(sum), true
}

// FlushNumber returns a number that is not subnormal.
func FlushNumber(x float32) float32 {
	p := patternOf(x)
	if p.isSubnormal() {
		return (p & signBit).number()
	}
	return x
}

// IsSubnormal reports whether x is subnormal.
func IsSubnormal(x float32) bool { return patternOf(x).isSubnormal() }

// eightFrom returns the eight samples from an index on, with +0 behind the end of the list.
func eightFrom(list []float32, at int) [8]float32 {
	if len(list)-at >= 8 {
		return [8]float32(list[at : at+8])
	}
	var eight [8]float32
	copy(eight[:], list[at:])
	return eight
}

func scaleEight(a [8]float32, by float32) [8]float32 {
	for i := range 8 {
		a[i] *= by
	}
	return a
}

func mixEights(a, b [8]float32) [8]float32 {
	for i := range 8 {
		a[i] += b[i]
	}
	return a
}

// ScaleSamples returns samples with a factor.
func ScaleSamples(list []float32, by float32) ([]float32, bool) {
	if !areSamples(list) {
		return nil, false
	}
	scaled := make([]float32, len(list))
	for at := 0; at < len(list); at += 8 {
		eight := scaleEight(eightFrom(list, at), by)
		copy(scaled[at:], eight[:])
	}
	return scaled, true
}

// MixSamples returns the sums of samples.
func MixSamples(a, b []float32) ([]float32, bool) {
	if !areSamePair(a, b) {
		return nil, false
	}
	mixed := make([]float32, len(a))
	for at := 0; at < len(a); at += 8 {
		eight := mixEights(eightFrom(a, at), eightFrom(b, at))
		copy(mixed[at:], eight[:])
	}
	return mixed, true
}

// PeakOf returns the greatest absolute value.
func PeakOf(list []float32) (float32, bool) {
	if !areSamples(list) {
		return 0, false
	}
	return peakOf(list), true
}

// peakOf has no limit for the number of samples.
func peakOf(list []float32) float32 {
	var peak float32
	for _, x := range list {
		// A not-a-number is not greater than anything, and is passed over.
		if size := sizeOf(x); size > peak {
			peak = size
		}
	}
	return peak
}

// ExpNumber returns the exponential function.
func ExpNumber(x float32) float32 { return NarrowNumber(expWide(float64(x))) }

func expWide(x float64) float64 {
	if x > 200 {
		return math.Inf(1)
	}
	if x < -200 {
		return 0
	}
	t := x / 256
	p := 1.0
	for k := 12; k >= 1; k-- {
		p = 1 + float64(t*p)/float64(k)
	}
	for range 8 {
		p *= p
	}
	return p
}

// LogNumber returns the logarithm.
func LogNumber(x float32) float32 { return NarrowNumber(logWide(float64(x))) }

func logWide(x float64) float64 {
	switch {
	case x < 0:
		return math.NaN()
	case x == 0:
		return math.Inf(-1)
	case math.IsNaN(x) || math.IsInf(x, 1):
		return x
	}
	x, halvings := nearOne(x)
	s := (x - 1) / (x + 1)
	u := s * s
	q := 0.0
	for k := 25; k >= 1; k -= 2 {
		q = 1/float64(k) + float64(u*q)
	}
	const logOfTwo = 0.6931471805599453
	return float64(2*float64(s*q)) + float64(halvings*logOfTwo)
}

// nearOne halves or doubles a finite x greater than 0 until it is in the range of the series,
// and returns how often it was halved, less how often doubled.
func nearOne(x float64) (float64, float64) {
	halvings := 0.0
	for x >= 1.5 {
		x /= 2
		halvings++
	}
	for x < 0.75 {
		x *= 2
		halvings--
	}
	return x, halvings
}

// RootNumber returns the square root.
func RootNumber(x float32) float32 { return NarrowNumber(math.Sqrt(float64(x))) }

// TanhNumber returns the hyperbolic tangent.
func TanhNumber(x float32) float32 { return NarrowNumber(tanhWide(float64(x))) }

func tanhWide(x float64) float64 {
	if x > 20 {
		return 1
	}
	if x < -20 {
		return -1
	}
	p := expWide(2 * x)
	return (p - 1) / (p + 1)
}

// SineTurns returns the sine of some turns.
func SineTurns(x float32) float32 { return NarrowNumber(sineWide(float64(x))) }

func sineWide(x float64) float64 {
	switch {
	case math.IsNaN(x) || math.IsInf(x, 0):
		return math.NaN()
	case math.Abs(x) >= 1<<52:
		return 0
	}
	f := partOfTurn(x)
	turned := f >= 0.5
	if turned {
		f -= 0.5
	}
	if f > 0.25 {
		f = 0.5 - f
	}
	sine := sineSeries(f * 6.283185307179586)
	if turned {
		return -sine
	}
	return sine
}

// partOfTurn returns what is behind the point of x, counted from the full turn below it.
func partOfTurn(x float64) float64 {
	// An integer has no zero with a sign, so that -0 stays -0.
	f := x - float64(int64(x))
	if f < 0 {
		f++
	}
	return f
}

func sineSeries(z float64) float64 {
	u := z * z
	p := 1.0
	for k := 8; k >= 1; k-- {
		p = 1 - float64(u*p)/float64(2*k*(2*k+1))
	}
	return z * p
}

// GainOf returns the factor for some tenths of decibels.
func GainOf(tenths int64) (float32, bool) {
	if tenths < -MaxTenths || tenths > MaxTenths {
		return 0, false
	}
	return NarrowNumber(expWide(float64(tenths) * 0.011512925464970229)), true
}

// textOfList joins the texts of all items of a list.
func textOfList[T any](list []T, separator string, textOf func(T) string) string {
	if len(list) == 0 {
		return emptyText
	}
	return strings.Join(resultsOf(list, textOf), separator)
}

// listOfText returns the list whose text is s, if it has at most so many items.
func listOfText[T any](s string, most int, read func(string) (T, bool)) ([]T, bool) {
	if s == emptyText {
		return []T{}, true
	}
	if strings.Count(s, ",") >= most {
		return nil, false
	}
	words := strings.Split(s, ",")
	list := make([]T, len(words))
	for i, word := range words {
		item, ok := read(word)
		if !ok {
			return nil, false
		}
		list[i] = item
	}
	return list, true
}

func numberText(x float32) string {
	digits := strconv.FormatInt(BitsOf(x), 16)
	return strings.Repeat("0", 8-len(digits)) + digits
}

func readNumber(s string) (float32, bool) {
	bits, err := strconv.ParseUint(s, 16, 32)
	if err != nil {
		return 0, false
	}
	x := pattern(bits).number()
	// ParseUint also takes capital letters and few digits, and several bits are one not-a-number.
	if numberText(x) != s {
		return 0, false
	}
	return x, true
}

func numbersText(list []float32) string { return textOfList(list, ",", numberText) }

// NumbersText returns the text of numbers.
func NumbersText(list []float32) (string, bool) {
	if !areSamples(list) {
		return "", false
	}
	return numbersText(list), true
}

// ReadNumbers returns the numbers with the given text.
func ReadNumbers(s string) ([]float32, bool) { return listOfText(s, MaxSamples, readNumber) }

// IsName reports whether s is a name.
func IsName(s string) bool {
	if len(s) < 1 || len(s) > 8 {
		return false
	}
	for _, letter := range s {
		if !isLetter(letter) {
			return false
		}
	}
	return true
}

func isLetter(r rune) bool { return r >= 'a' && r <= 'z' }

// Decimal returns n in decimal.
func Decimal(n int64) string { return strconv.FormatInt(n, 10) }

func isValue(n int64) bool { return n >= -MaxValue && n <= MaxValue }

// ReadDecimal returns the number with the given decimal text.
func ReadDecimal(s string) (int64, bool) {
	n, err := strconv.ParseInt(s, 10, 64)
	// ParseInt also takes a plus sign, leading zeros and -0.
	if err != nil || !isValue(n) || Decimal(n) != s {
		return 0, false
	}
	return n, true
}

func areValues(list []int64) bool {
	for _, n := range list {
		if !isValue(n) {
			return false
		}
	}
	return len(list) <= MaxItems
}

// ListText returns the text of a list.
func ListText(list []int64) (string, bool) {
	if !areValues(list) {
		return "", false
	}
	return textOfList(list, ",", Decimal), true
}

// ReadList returns the list with the given text.
func ReadList(s string) ([]int64, bool) { return listOfText(s, MaxItems, ReadDecimal) }

// CheckOf returns the check number of a text.
func CheckOf(start int64, s string) (int64, bool) {
	if start < 0 || start >= CheckSize {
		return 0, false
	}
	check := start
	for i := range len(s) {
		check = (577*check + int64(s[i]) + 21) % CheckSize
	}
	return check, true
}
