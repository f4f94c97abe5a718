package tests

import (
	"math"
	"slices"
	"testing"

	"loop.example/g01170/impl"
)

// plainPowers does what the document tells of windows, apart from the program.
func plainPowers(samples []float32, size, hop int) []float32 {
	var powers []float32
	for from := 0; from+size <= len(samples); from += hop {
		window := samples[from : from+size]
		powers = append(powers, over(plainDot(window, window), float32(size)))
	}
	return powers
}

func wantPowers(t *testing.T, what string, samples []float32, size, hop int64, want ...float32) {
	t.Helper()
	got, ok := impl.WindowPowers(samples, size, hop)
	wantSamples(t, what, got, ok, want)
}

func TestChapter10PowersByHand(t *testing.T) {
	wantPowers(t, "the example", []float32{1, 1, 2, 0}, 2, 1, 1, 2.5, 2)
	wantPowers(t, "side by side", []float32{1, 1, 2, 0, 9}, 2, 2, 1, 2)
	wantPowers(t, "a hop over samples", []float32{3, 9, 9, -4, 9, 9, 5}, 1, 3, 9, 16, 25)
	wantPowers(t, "a hop over most samples", []float32{3, 9, 9, 9}, 2, 3, 45)
	wantPowers(t, "a hop beyond all samples", []float32{3, 9, 9, 9}, 2, 256, 45)
	wantPowers(t, "as long as the samples", []float32{1, 2, 3, 4}, 4, 1, 7.5)
	wantPowers(t, "one longer", []float32{1, 2, 3, 4}, 5, 1)
	wantPowers(t, "much longer", []float32{1, 2, 3, 4}, 256, 1)
	wantPowers(t, "no samples", nil, 1, 1)
	wantPowers(t, "no samples", []float32{}, 256, 256)
	wantPowers(t, "one sample", []float32{-3}, 1, 1, 9)
	wantPowers(t, "silence", repeated(minus0, 4), 2, 1, 0, 0, 0)
	wantPowers(t, "a quotient that is rounded", []float32{1, 1, 0}, 3, 1, over(2, 3))
}

func TestChapter10PowersOfTheMostSamples(t *testing.T) {
	full := repeated(-2, 256)
	wantPowers(t, "a window of all", full, 256, 1, 4)
	wantPowers(t, "the greatest hop", full, 1, 256, 4)
	wantPowers(t, "both", full, 256, 256, 4)
	wantPowers(t, "the most windows", full, 1, 1, repeated(4, 256)...)
	wantPowers(t, "two windows", full, 255, 1, 4, 4)
	wantPowers(t, "one sample less", full[:255], 256, 1)
	wantPowers(t, "one sample is left", full, 1, 255, 4, 4)
	wantPowers(t, "no sample is left", full, 2, 255, 4)
}

func TestChapter10PowersOfAnyNumbers(t *testing.T) {
	x := []float32{1, notANum, 1, -infinity, 1, infinity}
	wantPowers(t, "windows with edges", x, 2, 1, notANum, notANum, infinity, infinity, infinity)
	wantPowers(t, "a product out of range", []float32{0x1p64, 1}, 1, 1, infinity, 1)
	wantPowers(t, "a sum out of range", []float32{0x1.8p63, -0x1.8p63}, 2, 1, infinity)
	wantPowers(t, "products below all numbers", []float32{tiny, 0x1p-76, 0x1p-74}, 1, 1, 0, 0, 0x1p-148)
	wantPowers(t, "a quotient below all numbers", []float32{0x1p-74, 0, 0, 0}, 4, 1, 0)
	wantPowers(t, "products are rounded on their own", []float32{1 + 0x1p-12, 1}, 2, 1, 1+0x1p-12)
	wantPowers(t, "sums from left to right", []float32{4096, 1, 1}, 3, 1, over(0x1p24, 3))
	wantPowers(t, "the other way", []float32{1, 1, 4096}, 3, 1, over(0x1p24+2, 3))
}

func partLengths() []int64 { return []int64{1, 2, 3, 7, 8, 100, 255, 256} }

func TestChapter10PowersAreThoseOfTheDocument(t *testing.T) {
	for style := range styles {
		for seed, n := range lengths() {
			x := samplesOfStyle(style, 10000+seed, n)
			for _, size := range partLengths() {
				for _, hop := range partLengths() {
					wantPowers(t, "powers", x, size, hop, plainPowers(x, int(size), int(hop))...)
				}
			}
		}
	}
}

// plainLoudness does what the document tells of loudness, apart from the program.
func plainLoudness(samples []float32, size, hop int, floor float32) (float32, bool) {
	powers := plainPowers(samples, size, hop)
	var mean float32
	for _, least := range []func() float32{func() float32 { return floor }, func() float32 { return times(0.1, mean) }} {
		var chosen []float32
		for _, power := range powers {
			if power >= least() {
				chosen = append(chosen, power)
			}
		}
		if len(chosen) == 0 {
			return 0, false
		}
		mean, powers = plainMean(chosen...), chosen
	}
	return mean, true
}

func plainMean(numbers ...float32) float32 {
	var sum float32
	for _, x := range numbers {
		sum = plus(sum, x)
	}
	return over(sum, float32(len(numbers)))
}

func wantLoudness(t *testing.T, what string, samples []float32, size, hop int64, floor, want float32) {
	t.Helper()
	got, ok := impl.LoudnessOf(samples, size, hop, floor)
	wantSum(t, what, got, ok, want)
}

func wantNoLoudness(t *testing.T, what string, samples []float32, size, hop int64, floor float32) {
	t.Helper()
	got, ok := impl.LoudnessOf(samples, size, hop, floor)
	wantZero(t, what, got, ok)
}

func TestChapter10LoudnessByHand(t *testing.T) {
	wantLoudness(t, "windows below the floor", []float32{1, 1, 2, 2, 0, 0}, 2, 2, 0.5, 2.5)
	wantLoudness(t, "no floor", []float32{1, 1, 2, 2, 0, 0}, 2, 2, 0, 2.5)
	wantLoudness(t, "a window below the tenth", []float32{10, 1, 3}, 1, 1, 0, 54.5)
	wantLoudness(t, "and below the floor", []float32{10, 1, 3}, 1, 1, 5, 54.5)
	wantLoudness(t, "the mean is that of the windows above the floor", []float32{100, 0, 0, 0, 0, 0, 0, 0, 0, 20}, 1, 1, 1, 10000)
	wantLoudness(t, "and not that of all windows", []float32{100, 0, 0, 0, 0, 0, 0, 0, 0, 20}, 1, 1, 0, 5200)
	wantLoudness(t, "the second choice is made among the first one", []float32{10, 4}, 1, 1, 50, 100)
	wantLoudness(t, "a window at the floor", []float32{2, 3}, 1, 1, 4, 6.5)
	wantLoudness(t, "just below the floor", []float32{2, 3}, 1, 1, rawNumber(0x40800001), 9)
	wantLoudness(t, "all windows at the floor", repeated(2, 256), 1, 1, 4, 4)
	wantLoudness(t, "windows one over another", []float32{1, 1, 2, 0}, 2, 1, 1, over(5.5, 3))
	wantLoudness(t, "one window", []float32{3, 4}, 2, 9, 12.5, 12.5)
	wantLoudness(t, "silence", repeated(minus0, 9), 3, 2, 0, 0)
	wantLoudness(t, "silence at the floor -0", make([]float32, 9), 3, 2, minus0, 0)
	wantLoudness(t, "a floor below 0", []float32{0, 1, 4}, 1, 1, -1, 8.5)
}

func TestChapter10LoudnessAtTheTenth(t *testing.T) {
	const size, hop, floor = 1, 1, 0
	wantLoudness(t, "a window at the tenth", []float32{6, 6, 2, 0, 1, 1, 1, 1}, 4, 4, floor, 10)
	// The tenth of 21160 is 2116, though the 32-bit number 0.1 is greater than 1/10.
	wantLoudness(t, "a product that is rounded down", []float32{161, 161, 161, 161, 46}, size, hop, floor, 21160)
	for _, c := range []struct {
		loud  float32
		count int
		soft  uint32
		both  bool
	}{
		// The product of the 32-bit numbers is not greater than this window, but that of 64-bit ones is.
		{48.703125, 4, 0x415ea492, true},
		// The product is greater than this window, but the mean divided by 10 is not.
		{22.125, 2, 0x40b9ee0e, false},
	} {
		loud, soft := repeated(c.loud, c.count), rawNumber(c.soft)
		want := plainMean(plainPowers(loud, 1, 1)...)
		if c.both {
			want = plainMean(plainPowers(append(loud, soft), 1, 1)...)
		}
		wantLoudness(t, "beside the tenth", append(loud, soft), size, hop, floor, want)
	}
}

func TestChapter10LoudnessOfAnyNumbers(t *testing.T) {
	wantLoudness(t, "not-a-numbers are left out", []float32{notANum, 2, notANum}, 1, 1, 0, 4)
	wantLoudness(t, "also with the least floor", []float32{notANum, 2, notANum}, 1, 1, -infinity, 4)
	wantLoudness(t, "an infinity leaves all others out", []float32{infinity, 2, 9}, 1, 1, 0, infinity)
	wantLoudness(t, "an infinite floor", []float32{-infinity, 2, 9}, 1, 1, infinity, infinity)
	wantLoudness(t, "the sum of great windows", []float32{0x1p63, 0x1p63}, 1, 1, 0, 0x1p126)
	wantNoLoudness(t, "a sum out of range", []float32{0x1p63, 0x1p63, 0x1p63, 0x1p63}, 1, 1, 0)
	wantLoudness(t, "subnormal windows", []float32{0x1p-74, 0x1p-73}, 1, 1, tiny, 5*tiny)
	wantLoudness(t, "a tenth that is rounded to 0", []float32{0x1p-74, 0}, 1, 1, 0, tiny)
	wantNoLoudness(t, "a floor that is a not-a-number", []float32{1, 2, infinity}, 1, 1, notANum)
	wantNoLoudness(t, "not-a-numbers alone", repeated(notANum, 9), 2, 1, -infinity)
	wantNoLoudness(t, "a floor above all windows", []float32{1, 2}, 1, 1, rawNumber(0x40800001))
	wantNoLoudness(t, "silence below the floor", []float32{0, 0}, 2, 1, 0.5)
	wantNoLoudness(t, "silence below the least floor", []float32{0, 0}, 2, 1, tiny)
	wantNoLoudness(t, "no window", []float32{1, 2}, 3, 1, 0)
	wantNoLoudness(t, "no samples", nil, 1, 1, -infinity)
}

func TestChapter10LoudnessIsThatOfTheDocument(t *testing.T) {
	for style := range styles {
		for seed, n := range lengths() {
			x := samplesOfStyle(style, 10100+seed, n)
			for _, size := range partLengths() {
				for _, hop := range partLengths() {
					floors := append([]float32{0, -1, infinity, notANum}, samplesOfStyle(style, 10200+seed, 2)...)
					floors = append(floors, plainPowers(x, int(size), int(hop))[:min(1, max(0, 1+n-int(size)))]...)
					for _, floor := range floors {
						if want, ok := plainLoudness(x, int(size), int(hop), floor); ok {
							wantLoudness(t, "loudness", x, size, hop, floor, want)
						} else {
							wantNoLoudness(t, "no loudness", x, size, hop, floor)
						}
					}
				}
			}
		}
	}
}

func TestChapter10NoWindows(t *testing.T) {
	for _, n := range []int{0, 1, 8, 256, 257, 1000} {
		x := repeated(1, n)
		for _, wrong := range wrongPartLengths() {
			for _, other := range append(wrongPartLengths(), 1, 2, 256) {
				for _, pair := range [][2]int64{{wrong, other}, {other, wrong}} {
					powers, ok := impl.WindowPowers(x, pair[0], pair[1])
					wantNoList(t, "a wrong size or hop", powers, ok)
					wantNoLoudness(t, "a wrong size or hop", x, pair[0], pair[1], 0)
				}
			}
		}
		if n > 256 {
			powers, ok := impl.WindowPowers(x, 1, 256)
			wantNoList(t, "too many samples", powers, ok)
			wantNoLoudness(t, "too many samples", x, 1, 256, 0)
		}
	}
}

func wantTenths(t *testing.T, level float32, want int64) {
	t.Helper()
	if got, ok := impl.TenthsOf(level); !ok || got != want {
		t.Errorf("the tenths of %v: got %d %v, want %d", level, got, ok, want)
	}
}

func TestChapter10TenthsByHand(t *testing.T) {
	for _, c := range []struct {
		level float32
		want  int64
	}{
		{1, 0}, {10, 200}, {100, 400}, {0.1, -200}, {0.01, -400}, {2, 60}, {0.5, -60}, {4, 120},
		{tiny, -8971}, {2 * tiny, -8910}, {0x1p-126, -7586}, {rawNumber(0x007fffff), -7586}, {largest, 7706},
		{rawNumber(0x3f7fffff), 0}, {rawNumber(0x3f800001), 0}, {1.01, 1}, {1.005, 0}, {1.006, 1}, {0.995, 0}, {0.994, -1},
	} {
		wantTenths(t, c.level, c.want)
	}
}

// There are no ties: of all levels, 200 times the logarithm and so on is nowhere an integer and a half. These come nearest to it.
func TestChapter10TenthsNearTies(t *testing.T) {
	for _, c := range []struct {
		level uint32
		want  int64
	}{
		{0x1c1f876d, -4255}, {0x2f8ae3bf, -1919}, {0x4ad94b90, 1371}, {0x4c87cf3a, 1571}, {0x599ee8dd, 3150},
		// A logarithm or a result that is narrowed would be on the other side of these.
		{0x00003435, -8146}, {0x00010bc0, -8003}, {0x000102a9, -8006}, {0x00012595, -7995}, {0x000141e8, -7987}, {0x00017199, -7976},
		{0x00019eb2, -7966}, {0x00004c56, -8113}, {0x0000f9e1, -8009}, {0x00017a35, -7973}, {0x00018c08, -7969}, {0x0001fe30, -7947},
	} {
		wantTenths(t, rawNumber(c.level), c.want)
	}
}

func TestChapter10TenthsAreNearTheTrueOnes(t *testing.T) {
	for i := range 20000 {
		level := rawNumber(mixedBits(10300, i) & 0x7fffffff)
		if !impl.IsFinite(level) || level == 0 {
			continue
		}
		got, ok := impl.TenthsOf(level)
		if want := 200 * math.Log10(float64(level)); !ok || math.Abs(float64(got)-want) > 0.5+1e-9 {
			t.Errorf("the tenths of %v: got %d %v, but they are about %v", level, got, ok, want)
		}
	}
	for tenths := int64(-750); tenths <= 750; tenths++ {
		gain, _ := impl.GainOf(tenths)
		wantTenths(t, gain, tenths)
	}
}

func TestChapter10NoTenths(t *testing.T) {
	isRight := func(x float32) bool { return x > 0 && x < infinity }
	for _, level := range slices.DeleteFunc(append(edgeNumbers(), -1, -10), isRight) {
		got, ok := impl.TenthsOf(level)
		wantZero(t, "no level", got, ok)
	}
}
