package tests

import (
	"math"
	"testing"

	"loop.example/g01170/impl"
)

// plainClip does what the document tells of clipped samples, apart from the program.
func plainClip(x, limit float32) float32 {
	if plainSize(x) > limit {
		if x < 0 {
			return times(limit, -1)
		}
		return limit
	}
	return x
}

func wantClipped(t *testing.T, what string, samples []float32, limit float32, want []float32) {
	t.Helper()
	got, ok := impl.ClipSamples(samples, limit)
	wantSamples(t, what, got, ok, want)
}

func TestChapter4ClippedByHand(t *testing.T) {
	wantClipped(t, "a limit", []float32{2, -2, 0.25, -0.25, 0.5, -0.5}, 0.5, []float32{0.5, -0.5, 0.25, -0.25, 0.5, -0.5})
	wantClipped(t, "no samples", nil, 0.5, nil)
	wantClipped(t, "edges", []float32{infinity, -infinity, notANum, minus0, -tiny}, 1, []float32{1, -1, notANum, minus0, -tiny})
	wantClipped(t, "just beyond", []float32{1 + 0x1p-23, -1 - 0x1p-23, 1 - 0x1p-24}, 1, []float32{1, -1, 1 - 0x1p-24})
	wantClipped(t, "the limit 0", []float32{1, -1, 0, minus0, tiny, -tiny, notANum}, 0, []float32{0, minus0, 0, minus0, 0, minus0, notANum})
	wantClipped(t, "the limit -0", []float32{1, -1, 0, minus0, tiny, -tiny}, minus0, []float32{minus0, 0, 0, minus0, minus0, 0})
	wantClipped(t, "a negative limit", []float32{2, -2, 0, minus0, 0.25, -0.25, notANum}, -1, []float32{-1, 1, -1, -1, -1, 1, notANum})
	wantClipped(t, "no limit", edgeNumbers(), infinity, edgeNumbers())
	wantClipped(t, "a limit that is a not-a-number", edgeNumbers(), notANum, edgeNumbers())
	wantClipped(t, "a negative infinity", []float32{1, -infinity, minus0}, -infinity, []float32{-infinity, infinity, -infinity})
	wantClipped(t, "the least number", []float32{2 * tiny, -1, tiny}, tiny, []float32{tiny, -tiny, tiny})
}

func TestChapter4ClippedSamplesKeepBits(t *testing.T) {
	x := append(edgeNumbers(), samplesOfStyle(3, 700, 200)...)
	for _, limit := range []float32{infinity, notANum, -notANum} {
		got, ok := impl.ClipSamples(x, limit)
		if !ok || !sameBits(got, x) {
			t.Errorf("samples behind the limit %v are not what they were", limit)
		}
	}
}

func TestChapter4ClippedAsTheDocumentTells(t *testing.T) {
	for style := range styles {
		for i, n := range lengths() {
			x := samplesOfStyle(style, 710+i, n)
			for _, limit := range append(edgeNumbers(), samplesOfStyle(style, 720+i, 4)...) {
				var want []float32
				for _, sample := range x {
					want = append(want, plainClip(sample, limit))
				}
				wantClipped(t, "clipped samples", x, limit, want)
			}
		}
	}
}

func TestChapter4BentByHand(t *testing.T) {
	below := float32(1 - 0x1p-24)
	for _, c := range []struct{ x, want float32 }{
		{0, 0}, {minus0, minus0}, {0.5, 0.6875}, {-0.5, -0.6875}, {1, 1}, {-1, -1}, {2, 1}, {-2, -1},
		{infinity, 1}, {-infinity, -1}, {largest, 1}, {notANum, notANum}, {-notANum, notANum},
		{below, below}, {-below, -below}, {1 + 0x1p-23, 1}, {tiny, 2 * tiny}, {-tiny, -2 * tiny}, {0x1p-126, 1.5 * 0x1p-126},
	} {
		wantNumber(t, "BendSample", impl.BendSample(c.x), c.want)
	}
}

// plainBend does what the document tells of bent samples, apart from the program.
func plainBend(x float32) float32 {
	if x >= 1 || x <= -1 {
		return float32(math.Copysign(1, float64(x)))
	}
	return times(x, plus(1.5, -times(0.5, times(x, x))))
}

func TestChapter4BentAsTheDocumentTells(t *testing.T) {
	list := edgeNumbers()
	for i := range 40 {
		list = append(list, samplesOfStyle(i%styles, 730+i, 256)...)
	}
	for i := range 2000 {
		list = append(list, rawNumber(0x3f000000|mixedBits(770, i)&0x80ffffff))
	}
	for _, x := range list {
		wantNumber(t, "BendSample", impl.BendSample(x), plainBend(x))
	}
}

func TestChapter4BentInSingleSteps(t *testing.T) {
	x := 0.5 + float32(1)/4096
	// The square is 1/4 + 2^-12 + 2^-24, and half of it less than 1.5 is rounded to a multiple of 2^-23.
	wantNumber(t, "a product is rounded first", impl.BendSample(x), times(x, 1.375-0x1p-13))
	wantNumber(t, "with the other sign", impl.BendSample(-x), -times(x, 1.375-0x1p-13))
}

// plainRoot is the nearest root, apart from the program's square root.
func plainRoot(samples []float32) float32 {
	var sum float32
	for _, x := range samples {
		sum = plus(sum, times(x, x))
	}
	return float32(math.Sqrt(float64(over(sum, float32(len(samples))))))
}

func TestChapter4RootsOfMeans(t *testing.T) {
	for _, c := range []struct {
		samples []float32
		want    float32
	}{
		{[]float32{3, -3, 3, 3}, 3},
		{[]float32{-5}, 5},
		{[]float32{0, 0, 0, 8}, 4},
		{[]float32{minus0}, 0},
		{[]float32{1, notANum}, notANum},
		{[]float32{1, -infinity}, infinity},
		{[]float32{largest}, infinity},
		{[]float32{0x1p-76, 0}, 0},
		{[]float32{0x1p-74}, 0x1p-74},
		{repeated(-2, 256), 2},
	} {
		got, ok := impl.RootMean(c.samples)
		wantSum(t, "RootMean", got, ok, c.want)
	}
	for style := range styles {
		for n := 1; n <= 256; n++ {
			samples := samplesOfStyle(style, 780+n, n)
			got, ok := impl.RootMean(samples)
			wantSum(t, "RootMean", got, ok, plainRoot(samples))
		}
	}
}

func TestChapter4NoRootsOfMeans(t *testing.T) {
	for _, samples := range [][]float32{nil, {}, make([]float32, 257), repeated(1, 1000)} {
		got, ok := impl.RootMean(samples)
		wantZero(t, "RootMean", got, ok)
	}
}

// plainFade does what the document tells of fades, apart from the program.
func plainFade(samples []float32, from, to float32) []float32 {
	var results []float32
	for i, x := range samples {
		part := over(float32(i), float32(len(samples)))
		results = append(results, times(x, plus(from, times(plus(to, -from), part))))
	}
	return results
}

func wantFaded(t *testing.T, what string, samples []float32, from, to float32, want []float32) {
	t.Helper()
	got, ok := impl.FadeSamples(samples, from, to)
	wantSamples(t, what, got, ok, want)
}

func TestChapter4FadesByHand(t *testing.T) {
	wantFaded(t, "up", repeated(1, 4), 0, 1, []float32{0, 0.25, 0.5, 0.75})
	wantFaded(t, "down", []float32{1, -2, 4, minus0}, 1, 0, []float32{1, -1.5, 2, minus0})
	wantFaded(t, "no samples", nil, 0, 1, nil)
	wantFaded(t, "one sample", []float32{3}, 5, 7, []float32{15})
	wantFaded(t, "a gain that stays", edgeNumbers(), 1, 1, edgeNumbers())
	wantFaded(t, "an infinity", []float32{1, 1, 0}, 0, infinity, []float32{notANum, infinity, notANum})
	wantFaded(t, "a not-a-number", []float32{1, 1}, 0, notANum, []float32{notANum, notANum})
	wantFaded(t, "out of range", repeated(1, 2), -largest, largest, []float32{notANum, infinity})
	wantFaded(t, "products are not flushed", []float32{tiny, 2 * tiny}, 0, 1, []float32{0, tiny})
}

func TestChapter4ProductsOfFadesAreRoundedOnTheirOwn(t *testing.T) {
	third := over(1, 3) // 3 times this is rounded to 1.
	wantFaded(t, "the product", repeated(1, 3), -1, 2, []float32{-1, 0, 1})
	wantFaded(t, "the quotient first", repeated(1, 3), 0, 0.1, []float32{0, times(0.1, third), times(0.1, over(2, 3))})
}

func TestChapter4FadesAreThoseOfTheDocument(t *testing.T) {
	for style := range styles {
		for n := range 257 {
			k, x := samplesOfStyle(style, 800+n, 2), samplesOfStyle(style, 801+n, n)
			wantFaded(t, "a fade", x, k[0], k[1], plainFade(x, k[0], k[1]))
		}
	}
}

func TestChapter4TooManyShapedSamples(t *testing.T) {
	for _, n := range []int{257, 1000} {
		got, ok := impl.ClipSamples(make([]float32, n), 1)
		wantNoList(t, "ClipSamples", got, ok)
		got, ok = impl.FadeSamples(make([]float32, n), 0, 1)
		wantNoList(t, "FadeSamples", got, ok)
	}
}
