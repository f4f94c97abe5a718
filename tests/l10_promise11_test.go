package tests

import (
	"math"
	"slices"
	"testing"

	"loop.example/g01170/impl"
)

// meteredLists are of all styles and lengths, right ones.
func meteredLists(seed int) [][]float32 {
	lists := [][]float32{nil, edgeNumbers(), wave(256), repeated(minus0, 9), repeated(notANum, 9), repeated(infinity, 9), repeated(largest, 9)}
	for style := range styles {
		for i, n := range lengths() {
			lists = append(lists, samplesOfStyle(style, seed+20*style+i, n))
		}
	}
	return lists
}

// meteredChannels are two lists of the same length, at least one sample long.
func meteredChannels(seed int) [][2][]float32 {
	var pairs [][2][]float32
	for i, left := range meteredLists(seed) {
		if len(left) > 0 {
			right := samplesOfStyle(i%styles, seed+500+i, len(left))
			pairs = append(pairs, [2][]float32{left, right}, [2][]float32{left, left}, [2][]float32{left, make([]float32, len(left))})
		}
	}
	return pairs
}

func TestPromise11PeaksAreThoseOfAllPlaces(t *testing.T) {
	for _, x := range meteredLists(10700) {
		var peaks []float32
		for first := 0; first < len(x); first++ {
			count := int64(min(4, 4*(len(x)-1-first)+1))
			played, ok := impl.PlayAt(impl.ReadCurve, x, float64(first), 0.25, count)
			if !ok {
				t.Fatalf("the places from %d on are refused", first)
			}
			peak, _ := impl.PeakOf(played)
			peaks = append(peaks, peak)
		}
		want, _ := impl.PeakOf(peaks)
		wantPeakBetween(t, "all places", x, want)
	}
}

func TestPromise11PeaksAreAtLeastThoseOfSamples(t *testing.T) {
	for n := range 257 {
		x := mixedSamples(10800+n, n)
		between, _ := impl.PeakBetween(x)
		if peak, _ := impl.PeakOf(x); between < peak {
			t.Errorf("the peak between %d samples is %v, but they have %v", n, between, peak)
		}
	}
}

func TestPromise11RunsAreAllSamplesThatAreTooGreat(t *testing.T) {
	for i, x := range meteredLists(10900) {
		for _, limit := range append(edgeNumbers(), 0.25, 2, 8) {
			clipped := make([]bool, len(x))
			runs, _ := impl.ClippedRuns(x, limit, 1)
			behind := int64(-1)
			for _, run := range runs {
				if run[0] <= behind || run[1] < 1 {
					t.Errorf("list %d, limit %v: the runs %v are not apart", i, limit, runs)
				}
				behind = run[0] + run[1]
				for k := run[0]; k < behind; k++ {
					clipped[k] = true
				}
			}
			for k, sample := range x {
				if clipped[k] != (plainSize(sample) >= limit) {
					t.Errorf("list %d, limit %v: the sample %d, %v, is on the wrong side of %v", i, limit, k, sample, runs)
				}
			}
			for _, least := range []int64{2, 3, 10, 256} {
				isShort := func(run []int64) bool { return run[1] < least }
				wantRuns(t, "the longer ones", x, limit, least, slices.DeleteFunc(slices.Clone(runs), isShort)...)
			}
		}
	}
}

func TestPromise11HeldPeaksGoOn(t *testing.T) {
	for i, x := range meteredLists(11000) {
		held, fall := samplesOfStyle(i%styles, 11050+i, 1)[0], gainsOfStyle(i%styles, 11060+i, 1)[0]
		whole, _ := impl.HoldPeaks(x, held, fall)
		for cut := 1; cut < len(x); cut += 1 + len(x)/20 {
			first, _ := impl.HoldPeaks(x[:cut], held, fall)
			second, ok := impl.HoldPeaks(x[cut:], first[cut-1], fall)
			wantSamples(t, "in two parts", append(first, second...), ok, whole)
		}
		if all, _ := impl.HoldPeaks(x, 0, 1); len(x) > 0 {
			peak, _ := impl.PeakOf(x)
			wantNumber(t, "the last of peaks that do not fall", all[len(x)-1], peak)
		}
	}
}

func TestPromise11CrossingsAreThoseOfBothParts(t *testing.T) {
	for _, x := range meteredLists(11100) {
		whole, _ := impl.CrossingsOf(x)
		for at := range x {
			first, _ := impl.CrossingsOf(x[:at+1])
			second, _ := impl.CrossingsOf(x[at:])
			if first+second != whole {
				t.Errorf("%d crossings up to the sample %d, and %d from there on, but %d in all", first, at, second, whole)
			}
		}
	}
}

func TestPromise11LagPowersAreDotsOfDifferences(t *testing.T) {
	for _, x := range meteredLists(11200) {
		for lag := 0; lag < len(x); lag += 1 + len(x)/16 {
			for count := 1; lag+count <= len(x); count += 1 + len(x)/16 {
				later, _ := impl.ScaleSamples(x[lag:lag+count], -1)
				differences, _ := impl.MixSamples(x[:count], later)
				want, _ := impl.DotNumbers(differences, differences)
				wantLagPower(t, "the dot of differences", x, int64(lag), int64(count), want)
			}
		}
	}
}

func TestPromise11PitchesHaveTheLeastPower(t *testing.T) {
	for _, x := range meteredLists(11300) {
		count := int64(len(x))
		for high := int64(1); high < count; high += 1 + count/8 {
			for low := int64(1); low <= high; low += 1 + count/8 {
				lag, power, ok := impl.PitchOf(x, low, high)
				for other := low; other <= high; other++ {
					least, _ := impl.LagPower(x, other, count-high)
					if isBest := !ok || least < power || least == power && other < lag; !isNaN(least) && isBest {
						t.Errorf("from %d to %d: %d %v %v, but the lag %d has %v", low, high, lag, power, ok, other, least)
					}
					if other == lag && least != power {
						t.Errorf("from %d to %d: the lag %d has %v, not %v", low, high, lag, least, power)
					}
				}
				if ok && (lag < low || lag > high) {
					t.Errorf("from %d to %d: the lag %d", low, high, lag)
				}
			}
		}
	}
}

func TestPromise11PitchesOfSoundsThatRepeat(t *testing.T) {
	for period := 2; period <= 100; period++ {
		x := slices.Repeat(mixedSamples(11400+period, period), 256/period)
		high := int64(len(x) - period)
		wantPitch(t, "a period", x, 1, high, int64(period), 0)
		if next := int64(2 * period); next <= high {
			wantPitch(t, "the next period", x, int64(period)+1, high, next, 0)
		}
	}
	saw, _, _ := impl.RunOscillator(impl.Oscillator{Kind: impl.WaveSaw, Step: 1.0 / 32}, 256)
	wantPitch(t, "an oscillator", saw, 8, 128, 32, 0)
}

func TestPromise11PowersAreDotsOfWindows(t *testing.T) {
	for _, x := range meteredLists(11600) {
		for _, size := range partLengths() {
			for _, hop := range partLengths() {
				var want []float32
				for from := int64(0); from+size <= int64(len(x)); from += hop {
					dot, _ := impl.DotNumbers(x[from:from+size], x[from:from+size])
					want = append(want, over(dot, float32(size)))
				}
				wantPowers(t, "dots of windows", x, size, hop, want...)
			}
		}
		if len(x) > 0 {
			powers, _ := impl.WindowPowers(x, int64(len(x)), 1)
			mean, _ := impl.RootMean(x)
			wantNumber(t, "the root of the only power", impl.RootNumber(powers[0]), mean)
		}
	}
}

// chosenMean is the mean of the numbers that are at least floor, by SumNumbers.
func chosenMean(list []float32, floor float32) ([]float32, float32) {
	chosen := slices.DeleteFunc(slices.Clone(list), func(x float32) bool { return !(x >= floor) })
	sum, _ := impl.SumNumbers(chosen)
	return chosen, over(sum, float32(len(chosen)))
}

func TestPromise11LoudnessIsAMeanOfPowers(t *testing.T) {
	for i, x := range meteredLists(11700) {
		for _, size := range partLengths() {
			for _, floor := range append(samplesOfStyle(i%styles, 11800+i, 3), 0, 0.5) {
				powers, _ := impl.WindowPowers(x, size, 3)
				chosen, mean := chosenMean(powers, floor)
				again, want := chosenMean(chosen, times(0.1, mean))
				if len(again) == 0 {
					wantNoLoudness(t, "no mean", x, size, 3, floor)
				} else {
					wantLoudness(t, "a mean", x, size, 3, floor, want)
				}
			}
		}
	}
}

func TestPromise11TenthsOfDoubledLevels(t *testing.T) {
	for i := range 2000 {
		level := rawNumber(0x00800000 + mixedBits(11900, i)%0x7e000000)
		once, _ := impl.TenthsOf(level)
		twice, ok := impl.TenthsOf(2 * level)
		if !ok || twice-once < 60 || twice-once > 61 {
			t.Errorf("%v has %d tenths, and twice as much %d %v", level, once, twice, ok)
		}
	}
}

func TestPromise11LikenessIsADotOfChannels(t *testing.T) {
	for _, pair := range meteredChannels(12000) {
		both, _ := impl.DotNumbers(pair[0], pair[1])
		left, _ := impl.DotNumbers(pair[0], pair[0])
		right, _ := impl.DotNumbers(pair[1], pair[1])
		wantLikeness(t, "dots", pair[0], pair[1], over(both, impl.RootNumber(times(left, right))))
	}
	for n := 1; n <= 256; n++ {
		x := mixedSamples(12100+n, n)
		got, ok := impl.LikenessOf(x, scaled(x, 2))
		if !ok || math.Abs(float64(got)-1) > 1e-6 {
			t.Errorf("the likeness of %d samples and their double is %v %v", n, got, ok)
		}
	}
}

func TestPromise11BalanceIsThatOfRootMeans(t *testing.T) {
	for _, pair := range meteredChannels(12200) {
		l, _ := impl.RootMean(pair[0])
		r, _ := impl.RootMean(pair[1])
		want := over(plus(r, -l), plus(r, l))
		if r == 0 && l == 0 {
			want = 0
		}
		wantBalance(t, "root means", pair[0], pair[1], want)
		if want != 0 {
			want = -want
		}
		wantBalance(t, "root means, the other way", pair[1], pair[0], want)
	}
}

func TestPromise11SpreadsHaveAllSamplesWithinRange(t *testing.T) {
	for i, x := range append(meteredLists(12300), scaled(mixedSamples(12400, 256), 1.0/64)) {
		var within int64
		for _, sample := range x {
			if sample >= -1 && sample < 1 {
				within++
			}
		}
		wantSpreadOf(t, "one part", x, 1, within)
		for parts := int64(1); parts <= 32; parts++ {
			fine, _ := impl.SpreadOf(x, 2*parts)
			if len(fine) != int(2*parts) {
				t.Fatalf("list %d has %d parts", i, len(fine))
			}
			coarse := make([]int64, parts)
			for k, count := range fine {
				coarse[k/2] += count
			}
			wantSpreadOf(t, "half as many parts", x, parts, coarse...)
		}
	}
}
