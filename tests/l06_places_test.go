package tests

import (
	"math"
	"testing"

	"loop.example/g01170/impl"
)

var minus0Wide = math.Copysign(0, -1)

func readKinds() []int64 { return []int64{impl.ReadNear, impl.ReadLine, impl.ReadCurve} }

func wrongReadKinds() []int64 { return []int64{-1, 3, 1 << 32, math.MinInt64, math.MaxInt64} }

func nextPlace(x float64) float64 { return math.Nextafter(x, math.Inf(1)) }

func placeBefore(x float64) float64 { return math.Nextafter(x, math.Inf(-1)) }

// sampleAround returns the sample with an index, or that at the end beyond which the index is.
func sampleAround(samples []float32, i int) float32 {
	switch {
	case i < 0:
		return samples[0]
	case i >= len(samples):
		return samples[len(samples)-1]
	}
	return samples[i]
}

func plainCurve(z, a, b, c, u float32) float32 {
	p := times(0.5, plus(b, -z))
	q := plus(plus(plus(z, -times(2.5, a)), times(2, b)), -times(0.5, c))
	r := plus(times(1.5, plus(a, -b)), times(0.5, plus(c, -z)))
	return plus(times(plus(times(plus(times(r, u), q), u), p), u), a)
}

// plainAt does what the document tells of a place, apart from the program.
func plainAt(kind int64, samples []float32, place float64) float32 {
	whole := math.Floor(place)
	if whole == 0 {
		whole = 0 // Not -0.
	}
	i, u := int(whole), float32(place-whole)
	a, b := sampleAround(samples, i), sampleAround(samples, i+1)
	switch {
	case kind == impl.ReadLine:
		return plus(a, times(u, plus(b, -a)))
	case kind == impl.ReadCurve:
		return plainCurve(sampleAround(samples, i-1), a, b, sampleAround(samples, i+2), u)
	case u >= 0.5:
		return b
	}
	return a
}

func wantAt(t *testing.T, what string, kind int64, samples []float32, place float64, want float32) {
	t.Helper()
	got, ok := impl.ReadAt(kind, samples, place)
	wantSum(t, what, got, ok, want)
}

// wantAllAt wants the numbers of all three kinds.
func wantAllAt(t *testing.T, what string, samples []float32, place float64, near, line, curve float32) {
	t.Helper()
	wantAt(t, what+", near", impl.ReadNear, samples, place, near)
	wantAt(t, what+", by the line", impl.ReadLine, samples, place, line)
	wantAt(t, what+", by the curve", impl.ReadCurve, samples, place, curve)
}

func TestChapter6PlacesByHand(t *testing.T) {
	wantAt(t, "the example", impl.ReadLine, []float32{1, 3}, 0.5, 2)
	x := []float32{1, 2, 4, 8}
	wantAllAt(t, "the first one", x, 0, 1, 1, 1)
	wantAllAt(t, "behind the first one", x, 0.5, 2, 1.5, 1.375)
	wantAllAt(t, "a quarter", x, 1.25, 2, 2.5, 2.3828125)
	wantAllAt(t, "a half", x, 1.5, 4, 3, 2.8125)
	wantAllAt(t, "three quarters", x, 1.75, 4, 3.5, 3.3359375)
	wantAllAt(t, "a whole one", x, 2, 4, 4, 4)
	wantAllAt(t, "before the last one", x, 2.5, 8, 6, 6.125)
	wantAllAt(t, "the last one", x, 3, 8, 8, 8)
	wantAllAt(t, "one bump", []float32{0, 0, 1, 0}, 1.5, 1, 0.5, 0.5625)
	wantAllAt(t, "two samples", []float32{1, 3}, 0.25, 1, 1.5, 1.40625)
	for _, place := range []float64{0, minus0Wide} {
		wantAllAt(t, "the only sample", []float32{7}, place, 7, 7, 7)
	}
}

func TestChapter6CurvesRepeatTheSamplesAtTheEnds(t *testing.T) {
	x := mixedSamples(900, 6)
	for _, u := range []float64{0, 0.25, 0.5, 0.75, 1 - 0x1p-24} {
		v := float32(u)
		wantAt(t, "the first part", impl.ReadCurve, x, u, plainCurve(x[0], x[0], x[1], x[2], v))
		wantAt(t, "a middle part", impl.ReadCurve, x, 2+u, plainCurve(x[1], x[2], x[3], x[4], v))
		wantAt(t, "the part before the last one", impl.ReadCurve, x, 3+u, plainCurve(x[2], x[3], x[4], x[5], v))
		wantAt(t, "the last part", impl.ReadCurve, x, 4+u, plainCurve(x[3], x[4], x[5], x[5], v))
		wantAt(t, "the only part", impl.ReadCurve, x[:2], u, plainCurve(x[0], x[0], x[1], x[1], v))
	}
	wantAt(t, "the last sample", impl.ReadCurve, x, 5, plainCurve(x[4], x[5], x[5], x[5], 0))
	wantAt(t, "the only sample", impl.ReadCurve, x[:1], 0, plainCurve(x[0], x[0], x[0], x[0], 0))
}

func TestChapter6NearestSamplesAtHalves(t *testing.T) {
	x := []float32{1, 2, 3, 4}
	near := func(place float64, want float32) {
		t.Helper()
		wantAt(t, "a half", impl.ReadNear, x, place, want)
	}
	near(0.5, 2)
	near(nextPlace(0.5), 2)
	near(1.5, 3)
	near(2.5, 4)
	near(0.5-0x1p-25, 1)
	// What is narrowed to 1/2 is at least 1/2: the half between it and the number before it goes to it, as it is even.
	near(0.5-0x1p-26, 2)
	near(placeBefore(0.5-0x1p-26), 1)
	near(placeBefore(0.5), 2)
	near(placeBefore(1.5), 3)
	near(2.5-0x1p-25, 3)
	near(2.5-0x1p-26, 4)
}

func TestChapter6PlacesJustBelowWholeOnes(t *testing.T) {
	// The share of the way is narrowed to 1, but the samples are those of the part before.
	x := []float32{0, 0x1p24, -1, 5, 9}
	for _, place := range []float64{2 - 0x1p-25, 2 - 0x1p-30, placeBefore(2)} {
		wantAt(t, "near", impl.ReadNear, x, place, -1)
		wantAt(t, "by the line", impl.ReadLine, x, place, 0)
		wantAt(t, "by the curve", impl.ReadCurve, x, place, plainCurve(0, 0x1p24, -1, 5, 1))
	}
	wantAt(t, "the whole one", impl.ReadLine, x, 2, -1)
	wantAt(t, "a share below 1", impl.ReadLine, x, 2-0x1p-24, 1)
	wantAt(t, "just behind a whole one", impl.ReadLine, x, nextPlace(1), 0x1p24)
	wantAllAt(t, "just below the last one", []float32{0x1p24, -1}, placeBefore(1), -1, 0, plainCurve(0x1p24, 0x1p24, -1, -1, 1))
	wantAllAt(t, "just behind 0", []float32{3, 5}, math.SmallestNonzeroFloat64, 3, 3, 3)
}

func TestChapter6PlacesAtBothZeros(t *testing.T) {
	x := []float32{minus0, minus0, minus0}
	wantAllAt(t, "+0", x, 0, minus0, 0, 0)
	wantAllAt(t, "-0", x, minus0Wide, minus0, minus0, minus0)
	wantAllAt(t, "a whole one", x, 1, minus0, 0, 0)
	wantAllAt(t, "less than any 32-bit number", x, math.SmallestNonzeroFloat64, minus0, 0, 0)
	wantAllAt(t, "the only sample at +0", x[:1], 0, minus0, 0, 0)
	wantAllAt(t, "the only sample at -0", x[:1], minus0Wide, minus0, minus0, minus0)
	wantAllAt(t, "+0 behind -0 at -0", []float32{minus0, 0}, minus0Wide, minus0, minus0, minus0)
	wantAllAt(t, "a negative number behind -0", []float32{minus0, -1}, 0, minus0, minus0, minus0)
}

func TestChapter6PlacesWithInfinities(t *testing.T) {
	x := []float32{1, infinity, 2, 3, 4, notANum, 5}
	wantAllAt(t, "before an infinity", x, 0, 1, notANum, notANum)
	wantAllAt(t, "at an infinity", x, 1, infinity, notANum, notANum)
	wantAllAt(t, "behind an infinity", x, 2, 2, 2, notANum)
	wantAllAt(t, "two behind an infinity", x, 3, 3, 3, notANum)
	wantAllAt(t, "before a not-a-number", x, 4, 4, notANum, notANum)
	wantAllAt(t, "at a not-a-number", x, 5, notANum, notANum, notANum)
	wantAllAt(t, "behind a not-a-number", x, 6, 5, 5, notANum)
	wantAllAt(t, "between numbers", x, 2.5, 3, 2.5, notANum)
	wantAllAt(t, "toward an infinity", x, 0.25, 1, infinity, notANum)
	wantAllAt(t, "away from an infinity", x, 1.25, infinity, notANum, notANum)
	wantAllAt(t, "a difference out of range", []float32{largest, -largest}, 0, largest, notANum, notANum)
	wantAllAt(t, "and a half of it", []float32{largest, -largest}, 0.5, -largest, -infinity, notANum)
	// 2 b is out of range here, though the sum with what is before it would not be.
	wantAllAt(t, "a product out of range", []float32{0, 0x1p126, 0x1p127, 0}, 1.5, 0x1p127, 0x1.8p126, infinity)
	wantAllAt(t, "a great number alone", []float32{largest}, 0, largest, largest, notANum)
	wantAllAt(t, "subnormal numbers", []float32{tiny, 3 * tiny, 5 * tiny}, 1.5, 5*tiny, 4*tiny, 4*tiny)
}

func TestChapter6ProductsOfPlacesAreRoundedOnTheirOwn(t *testing.T) {
	// Three quarters of the difference, 1 + 3 * 2^-23, are 0.75 + 2^-22 and 2^-25, which is rounded away.
	wantAt(t, "a product", impl.ReadLine, []float32{-0.75 - 0x1p-22, 0.25 + 0x1p-23}, 0.75, 0)
}

// placesOf are right ones for so many samples.
func placesOf(count int) []float64 {
	last := float64(count - 1)
	list := []float64{0, minus0Wide, last}
	for k, x := range mixedSamples(910+count, 12) {
		whole := math.Mod(math.Floor(math.Abs(float64(x))), float64(count))
		share := float64(mixedBits(911+count, k)) / (1 << 32)
		list = append(list, whole, nextPlace(whole), placeBefore(whole), whole+0.5, placeBefore(whole+0.5), whole+share, whole+float64(float32(share)))
	}
	list = append(list, math.SmallestNonzeroFloat64, 0.5, 0x1p-24, placeBefore(last), last-0.5, last-0x1p-25)
	var right []float64
	for _, place := range list {
		if place >= 0 && place <= last {
			right = append(right, place)
		}
	}
	return right
}

func TestChapter6PlacesAreThoseOfTheDocument(t *testing.T) {
	for style := range styles {
		for _, count := range []int{1, 2, 3, 4, 5, 8, 100, 255, 256} {
			for seed := range 20 {
				x := samplesOfStyle(style, 920+seed, count)
				for _, place := range placesOf(count) {
					for _, kind := range readKinds() {
						wantAt(t, "a place", kind, x, place, plainAt(kind, x, place))
					}
				}
			}
		}
	}
}

func wantNotAt(t *testing.T, what string, kind int64, samples []float32, place float64) {
	t.Helper()
	got, ok := impl.ReadAt(kind, samples, place)
	wantZero(t, what, got, ok)
}

func wrongPlaces(count int) []float64 {
	last := float64(count - 1)
	return []float64{
		-math.SmallestNonzeroFloat64, -0x1p-149, -0.5, -1, -math.MaxFloat64, math.Inf(-1), math.NaN(), -math.NaN(), math.Float64frombits(0x7ff0000000000001),
		nextPlace(last), last + 0.5, last + 1, 0x1p31, 0x1p32, 0x1p63, 0x1p64, math.MaxFloat64, math.Inf(1),
	}
}

func TestChapter6WrongPlaces(t *testing.T) {
	for _, kind := range readKinds() {
		for _, count := range []int{1, 2, 3, 255, 256} {
			x := mixedSamples(930, count)
			for _, place := range wrongPlaces(count) {
				wantNotAt(t, "a wrong place", kind, x, place)
			}
			for _, wrong := range wrongReadKinds() {
				for _, place := range placesOf(count) {
					wantNotAt(t, "a wrong kind", wrong, x, place)
				}
			}
		}
		for _, place := range append(wrongPlaces(0), 0, minus0Wide, 1) {
			wantNotAt(t, "no samples", kind, nil, place)
			wantNotAt(t, "no samples", kind, []float32{}, place)
			wantNotAt(t, "too many samples", kind, make([]float32, 257), place)
			wantNotAt(t, "too many samples", kind, make([]float32, 1000), place)
		}
	}
}
