package tests

import (
	"math"
	"testing"

	"loop.example/g01170/impl"
)

// plainPeakBetween does what the document tells of peaks between samples, apart from the program.
func plainPeakBetween(samples []float32) float32 {
	var peak float32
	for quarter := 0; quarter <= 4*(len(samples)-1); quarter++ {
		if size := plainSize(plainAt(impl.ReadCurve, samples, float64(quarter)/4)); size > peak {
			peak = size
		}
	}
	return peak
}

func wantPeakBetween(t *testing.T, what string, samples []float32, want float32) {
	t.Helper()
	got, ok := impl.PeakBetween(samples)
	wantSum(t, what, got, ok, want)
}

func TestChapter10PeaksBetweenByHand(t *testing.T) {
	wantPeakBetween(t, "a half", []float32{0, 1, 1, 0}, 1.125)
	wantPeakBetween(t, "a quarter", []float32{0, 4, 3, 0}, 4.1484375)
	wantPeakBetween(t, "three quarters", []float32{0, 3, 4, 0}, 4.1484375)
	wantPeakBetween(t, "below 0", []float32{0, -4, -3, 0}, 4.1484375)
	wantPeakBetween(t, "the first sample", []float32{5, 0, 0}, 5)
	wantPeakBetween(t, "the last sample", []float32{0, 0, -5}, 5)
	wantPeakBetween(t, "before the last sample", []float32{0, 0, 1, 1}, 1.0703125)
	wantPeakBetween(t, "behind the first sample", []float32{1, 1, 0, 0}, 1.0703125)
	wantPeakBetween(t, "two samples", []float32{1, 3}, 3)
	wantPeakBetween(t, "a line", []float32{-3, -1, 1, 3}, 3)
}

func TestChapter10PeaksBetweenOfFewSamples(t *testing.T) {
	wantPeakBetween(t, "no samples", nil, 0)
	wantPeakBetween(t, "no samples", []float32{}, 0)
	for _, c := range []struct{ x, want float32 }{
		{3, 3}, {-3, 3}, {0, 0}, {minus0, 0}, {tiny, tiny}, {-tiny, tiny}, {notANum, 0}, {0x1p126, 0x1p126},
		// The terms of the curve are out of range here, so that it has a not-a-number at the place 0.
		{infinity, 0}, {-infinity, 0}, {largest, 0},
	} {
		wantPeakBetween(t, "one sample", []float32{c.x}, c.want)
	}
}

func TestChapter10PeaksBetweenEdges(t *testing.T) {
	wantPeakBetween(t, "silence", repeated(minus0, 256), 0)
	wantPeakBetween(t, "not-a-numbers", repeated(notANum, 256), 0)
	wantPeakBetween(t, "an infinity is a not-a-number around it", []float32{1, infinity, 2, 3, 4}, 4)
	wantPeakBetween(t, "not-a-numbers hide samples", []float32{9, notANum, 8, 1, 2, 3}, 3)
	wantPeakBetween(t, "out of range between samples", []float32{0, 0x1p126, 0x1p127, 0}, infinity)
	wantPeakBetween(t, "subnormal numbers", []float32{2 * tiny, 4 * tiny, 6 * tiny}, 6*tiny)
	wantPeakBetween(t, "subnormal numbers beyond samples", scaled([]float32{0, 64, 64, 0}, tiny), 72*tiny)
	first, last := repeated(1, 256), repeated(1, 256)
	first[0], last[255] = 7, -7
	wantPeakBetween(t, "the first of the most samples", first, 7)
	wantPeakBetween(t, "the last of the most samples", last, 7)
}

func TestChapter10PeaksBetweenAreThoseOfTheDocument(t *testing.T) {
	for style := range styles {
		for n := range 257 {
			x := samplesOfStyle(style, 9100+n, n)
			wantPeakBetween(t, "a peak", x, plainPeakBetween(x))
		}
		for seed := range 300 {
			x := samplesOfStyle(style, 9400+seed, 1+seed%7)
			wantPeakBetween(t, "a peak of few samples", x, plainPeakBetween(x))
		}
	}
}

// plainRuns does what the document tells of runs, apart from the program.
func plainRuns(samples []float32, limit float32, least int64) [][]int64 {
	isClipped := func(i int) bool { return i >= 0 && i < len(samples) && plainSize(samples[i]) >= limit }
	var runs [][]int64
	for i := range samples {
		if !isClipped(i) || isClipped(i-1) {
			continue
		}
		length := int64(0)
		for isClipped(i + int(length)) {
			length++
		}
		if length >= least {
			runs = append(runs, []int64{int64(i), length})
		}
	}
	return runs
}

func wantRuns(t *testing.T, what string, samples []float32, limit float32, least int64, want ...[]int64) {
	t.Helper()
	got, ok := impl.ClippedRuns(samples, limit, least)
	if !ok || len(got) != len(want) {
		t.Errorf("%s: got %v %v, want %v", what, got, ok, want)
		return
	}
	for i, run := range got {
		wantIntegers(t, what, run, ok, want[i])
	}
}

func run(first, count int64) []int64 { return []int64{first, count} }

func TestChapter10RunsByHand(t *testing.T) {
	x := []float32{1, 1, 0, -1, 1, 1, 0.5}
	wantRuns(t, "two runs", x, 1, 2, run(0, 2), run(3, 3))
	wantRuns(t, "a longer one", x, 1, 3, run(3, 3))
	wantRuns(t, "none is as long", x, 1, 4)
	wantRuns(t, "a lesser limit", x, 0.5, 1, run(0, 2), run(3, 4))
	wantRuns(t, "one sample each", []float32{2, 0, -2, 0, 2}, 2, 1, run(0, 1), run(2, 1), run(4, 1))
	wantRuns(t, "one sample each is too short", []float32{2, 0, -2, 0, 2}, 2, 2)
	wantRuns(t, "both ends", []float32{3, 3, 0, 0, 3, 3, 3}, 3, 2, run(0, 2), run(4, 3))
	wantRuns(t, "all samples", []float32{3, -3, 3}, 3, 3, run(0, 3))
	wantRuns(t, "one more than all", []float32{3, -3, 3}, 3, 4)
	wantRuns(t, "all but the first and the last", []float32{0, 3, 3, 3, 0}, 3, 1, run(1, 3))
	wantRuns(t, "beside the limit", []float32{1, rawNumber(0x3f7fffff), rawNumber(0x3f800001), -1, rawNumber(0xbf7fffff)}, 1, 1, run(0, 1), run(2, 2))
	wantRuns(t, "no samples", nil, 1, 1)
	wantRuns(t, "one sample", []float32{-1}, 1, 1, run(0, 1))
	wantRuns(t, "one sample within the limit", []float32{0.5}, 1, 1)
}

func TestChapter10RunsOfTheMostSamples(t *testing.T) {
	full := repeated(1, 256)
	wantRuns(t, "all", full, 1, 1, run(0, 256))
	wantRuns(t, "all, and as many", full, 1, 256, run(0, 256))
	wantRuns(t, "one less", full[:255], 1, 256)
	wantRuns(t, "one less, and as many", full[:255], 1, 255, run(0, 255))
	full[128] = 0
	wantRuns(t, "two halves", full, 1, 127, run(0, 128), run(129, 127))
	wantRuns(t, "the first half", full, 1, 128, run(0, 128))
	wantRuns(t, "neither half", full, 1, 129)
	var want [][]int64
	for i := range full {
		full[i] = float32(1 - i%2)
		if i%2 == 0 {
			want = append(want, run(int64(i), 1))
		}
	}
	wantRuns(t, "the most runs", full, 1, 1, want...)
}

func TestChapter10RunsWithAnyLimit(t *testing.T) {
	x := []float32{notANum, 0, minus0, tiny, -tiny, notANum, -largest, infinity, -infinity, -notANum}
	for _, limit := range []float32{0, minus0, -1, -infinity, -tiny} {
		wantRuns(t, "all but not-a-numbers", x, limit, 1, run(1, 4), run(6, 3))
	}
	wantRuns(t, "a subnormal limit", x, tiny, 1, run(3, 2), run(6, 3))
	wantRuns(t, "the greatest limit", x, largest, 1, run(6, 3))
	wantRuns(t, "an infinity", x, infinity, 1, run(7, 2))
	wantRuns(t, "a not-a-number", x, notANum, 1)
	wantRuns(t, "a not-a-number with a sign", x, -notANum, 1)
	wantRuns(t, "not-a-numbers alone", repeated(notANum, 9), -infinity, 1)
}

func TestChapter10RunsAreThoseOfTheDocument(t *testing.T) {
	for style := range styles {
		for seed, n := range lengths() {
			x := samplesOfStyle(style, 9700+seed, n)
			for _, limit := range append(edgeNumbers(), samplesOfStyle(style, 9720+seed, 12)...) {
				for _, least := range []int64{1, 2, 3, 5, 256} {
					wantRuns(t, "a run", x, limit, least, plainRuns(x, limit, least)...)
				}
			}
		}
	}
}

func wrongPartLengths() []int64 {
	return []int64{0, -1, 257, 1000, 1 << 32, 1<<32 + 1, math.MinInt64, math.MinInt64 + 1, math.MaxInt64}
}

func TestChapter10NoPeaksAndRuns(t *testing.T) {
	for _, n := range []int{257, 1000} {
		peak, ok := impl.PeakBetween(repeated(1, n))
		wantZero(t, "the peak of too many samples", peak, ok)
		runs, ok := impl.ClippedRuns(repeated(1, n), 1, 1)
		wantNoList(t, "runs of too many samples", runs, ok)
		peaks, ok := impl.HoldPeaks(repeated(1, n), 1, 1)
		wantNoList(t, "too many held peaks", peaks, ok)
		crossings, ok := impl.CrossingsOf(repeated(1, n))
		wantZero(t, "crossings of too many samples", crossings, ok)
	}
	for _, least := range wrongPartLengths() {
		for _, n := range []int{0, 1, 256, 257} {
			runs, ok := impl.ClippedRuns(repeated(1, n), 1, least)
			wantNoList(t, "a wrong number", runs, ok)
		}
	}
}

// plainHeldPeaks does what the document tells of held peaks, apart from the program.
func plainHeldPeaks(samples []float32, held, fall float32) []float32 {
	var peaks []float32
	for _, x := range samples {
		size := plainSize(x)
		if isNaN(size) {
			size = 0
		}
		held = times(held, fall)
		if size > held {
			held = size
		}
		peaks = append(peaks, held)
	}
	return peaks
}

func wantHeld(t *testing.T, what string, samples []float32, held, fall float32, want ...float32) {
	t.Helper()
	got, ok := impl.HoldPeaks(samples, held, fall)
	wantSamples(t, what, got, ok, want)
}

func TestChapter10HeldPeaksByHand(t *testing.T) {
	wantHeld(t, "peaks that fall", []float32{1, 0.25, -2, 0}, 0, 0.5, 1, 0.5, 2, 1)
	wantHeld(t, "what has been held before", []float32{0, 0, 3, 0}, 4, 0.5, 2, 1, 3, 1.5)
	wantHeld(t, "no fall", []float32{1, -3, 2}, 0, 1, 1, 3, 3)
	wantHeld(t, "no peaks are held", []float32{1, -3, 2}, 9, 0, 1, 3, 2)
	wantHeld(t, "peaks that rise", []float32{1, 0, 0}, 0, 2, 1, 2, 4)
	wantHeld(t, "no samples", nil, 5, 1)
	wantHeld(t, "one sample", []float32{-7}, 5, 1, 7)
	wantHeld(t, "as great as the product", []float32{-2, 1}, 4, 0.5, 2, 1)
	wantHeld(t, "the most samples", repeated(0, 256), 3, 1, repeated(3, 256)...)
}

func TestChapter10HeldPeaksOfAnyNumbers(t *testing.T) {
	wantHeld(t, "less than 0", []float32{0, minus0, 1}, -4, 0.5, 0, 0, 1)
	wantHeld(t, "a product -0 is not less than +0", []float32{0, minus0, 0}, 0, -1, minus0, 0, minus0)
	wantHeld(t, "a fall less than 0", []float32{1, 0, 0}, 0, -1, 1, 0, minus0)
	wantHeld(t, "not-a-numbers", []float32{notANum, -notANum, 2, notANum}, 8, 0.5, 4, 2, 2, 1)
	wantHeld(t, "a not-a-number counts as +0", []float32{notANum, -notANum}, -2, 0.5, 0, 0)
	wantHeld(t, "beside a product -0", []float32{notANum, notANum}, minus0, 1, minus0, minus0)
	wantHeld(t, "what is held is a not-a-number", []float32{5, infinity}, notANum, 1, notANum, notANum)
	wantHeld(t, "the fall is a not-a-number", []float32{5, 0}, 1, notANum, notANum, notANum)
	wantHeld(t, "a product is a not-a-number", []float32{5, 6}, infinity, 0, notANum, notANum)
	wantHeld(t, "an infinity", []float32{1, -infinity, 1}, 0, 0.5, 1, infinity, infinity)
	wantHeld(t, "an infinity becomes a not-a-number", []float32{infinity, 1, 2}, 0, 0, infinity, notANum, notANum)
	wantHeld(t, "-infinity is held", []float32{0, 3}, -infinity, 1, 0, 3)
	wantHeld(t, "out of range", []float32{0, 0}, largest, 2, infinity, infinity)
	wantHeld(t, "subnormal numbers are not flushed", []float32{0, 0, -tiny, 0}, 2*tiny, 0.5, tiny, 0, tiny, 0)
}

func TestChapter10HeldPeaksAreThoseOfTheDocument(t *testing.T) {
	for style := range styles {
		for n := range 257 {
			x := samplesOfStyle(style, 9740+n, n)
			for k, held := range samplesOfStyle(style, 9741+n, 3) {
				fall := gainsOfStyle(style, 9742+n+k, 1)[0]
				wantHeld(t, "held peaks", x, held, fall, plainHeldPeaks(x, held, fall)...)
			}
		}
	}
	for _, held := range edgeNumbers() {
		for _, fall := range edgeNumbers() {
			wantHeld(t, "edges", edgeNumbers(), held, fall, plainHeldPeaks(edgeNumbers(), held, fall)...)
		}
	}
}
