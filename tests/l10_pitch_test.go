package tests

import (
	"math"
	"testing"

	"loop.example/g01170/impl"
)

// plainCrossings does what the document tells of crossings, apart from the program.
func plainCrossings(samples []float32) int64 {
	var crossings int64
	for i := 1; i < len(samples); i++ {
		before, x := samples[i-1], samples[i]
		if x < 0 && before >= 0 || x >= 0 && before < 0 {
			crossings++
		}
	}
	return crossings
}

func wantCrossings(t *testing.T, what string, samples []float32, want int64) {
	t.Helper()
	if got, ok := impl.CrossingsOf(samples); !ok || got != want {
		t.Errorf("%s: got %d %v, want %d", what, got, ok, want)
	}
}

func TestChapter10CrossingsByHand(t *testing.T) {
	wantCrossings(t, "up and down", []float32{1, -1, 0, 2, -3}, 3)
	wantCrossings(t, "no samples", nil, 0)
	wantCrossings(t, "one sample", []float32{-1}, 0)
	wantCrossings(t, "no crossing", []float32{1, 2, 0, 3}, 0)
	wantCrossings(t, "no crossing below 0", []float32{-1, -2, -tiny, -3}, 0)
	wantCrossings(t, "both zeros are at least 0", []float32{0, minus0, 0, 1, minus0}, 0)
	wantCrossings(t, "up to -0", []float32{-1, minus0}, 1)
	wantCrossings(t, "down from -0", []float32{minus0, -1}, 1)
	wantCrossings(t, "subnormal numbers", []float32{tiny, -tiny, 0, -tiny}, 3)
	wantCrossings(t, "infinities", []float32{infinity, -infinity, infinity}, 2)
	wantCrossings(t, "a not-a-number is on neither side", []float32{1, notANum, -1, notANum, 1, -1, notANum, -notANum}, 1)
	wantCrossings(t, "not-a-numbers", repeated(notANum, 5), 0)
	wave := make([]float32, 256)
	for i := range wave {
		wave[i] = float32(1 - 2*(i%2))
	}
	wantCrossings(t, "the most crossings", wave, 255)
	wantCrossings(t, "one less", wave[1:], 254)
}

func TestChapter10CrossingsAreThoseOfTheDocument(t *testing.T) {
	for _, a := range edgeNumbers() {
		for _, b := range edgeNumbers() {
			wantCrossings(t, "a pair", []float32{a, b}, plainCrossings([]float32{a, b}))
		}
	}
	for style := range styles {
		for n := range 257 {
			x := samplesOfStyle(style, 9800+n, n)
			wantCrossings(t, "crossings", x, plainCrossings(x))
		}
	}
}

// plainDot does what the document tells of DotNumbers for samples and themselves, apart from the program.
func plainDot(a, b []float32) float32 {
	var sum float32
	for i, x := range a {
		sum = plus(sum, times(x, b[i]))
	}
	return sum
}

func plainLagPower(samples []float32, lag, count int) float32 {
	var differences []float32
	for i := range count {
		differences = append(differences, plus(samples[i], -samples[i+lag]))
	}
	return plainDot(differences, differences)
}

func wantLagPower(t *testing.T, what string, samples []float32, lag, count int64, want float32) {
	t.Helper()
	got, ok := impl.LagPower(samples, lag, count)
	wantSum(t, what, got, ok, want)
}

func wave(count int) []float32 {
	list := make([]float32, count)
	for i := range list {
		list[i] = []float32{1, 0, -1, 0}[i%4]
	}
	return list
}

func TestChapter10LagPowersByHand(t *testing.T) {
	wantLagPower(t, "neighbours", []float32{1, 2, 4}, 1, 2, 5)
	wantLagPower(t, "some of them", []float32{1, 2, 4}, 1, 1, 1)
	wantLagPower(t, "the ends", []float32{1, 2, 4}, 2, 1, 9)
	wantLagPower(t, "half a period", wave(8), 2, 3, 8)
	wantLagPower(t, "a period", wave(8), 4, 4, 0)
	wantLagPower(t, "no lag", []float32{1, 2, -largest}, 0, 3, 0)
	wantLagPower(t, "one sample", []float32{5}, 0, 1, 0)
	wantLagPower(t, "both signs", []float32{-3, 4}, 1, 1, 49)
	wantLagPower(t, "the most samples", repeated(2, 256), 0, 256, 0)
	wantLagPower(t, "the greatest lag", append(repeated(2, 255), 5), 255, 1, 9)
	wantLagPower(t, "halves", append(repeated(2, 128), repeated(5, 128)...), 128, 128, 9*128)
	wantLagPower(t, "silence", repeated(minus0, 20), 5, 15, 0)
}

func TestChapter10LagPowersAreRoundedInEachStep(t *testing.T) {
	wantLagPower(t, "a difference", []float32{16777216, -1}, 1, 1, 0x1p48)
	wantLagPower(t, "a product", []float32{1 + 0x1p-12, 0}, 1, 1, 1+0x1p-11)
	wantLagPower(t, "a sum from left to right", []float32{4096, 1, 1, 0, 0, 0}, 3, 3, 0x1p24)
	wantLagPower(t, "the other way", []float32{1, 1, 4096, 0, 0, 0}, 3, 3, 0x1p24+2)
	wantLagPower(t, "subnormal differences", []float32{tiny, 2 * tiny}, 1, 1, 0)
	wantLagPower(t, "subnormal products", []float32{0x1p-74, 0}, 1, 1, 0x1p-148)
}

func TestChapter10LagPowersOfInfinities(t *testing.T) {
	wantLagPower(t, "an infinity", []float32{infinity, 1}, 1, 1, infinity)
	wantLagPower(t, "two infinities", []float32{infinity, infinity}, 1, 1, notANum)
	wantLagPower(t, "opposite infinities", []float32{infinity, -infinity}, 1, 1, infinity)
	wantLagPower(t, "an infinity and itself", []float32{infinity}, 0, 1, notANum)
	wantLagPower(t, "a not-a-number", []float32{1, notANum}, 1, 1, notANum)
	wantLagPower(t, "a not-a-number that is not reached", []float32{1, 2, notANum}, 1, 1, 1)
	wantLagPower(t, "a difference out of range", []float32{largest, -largest}, 1, 1, infinity)
	wantLagPower(t, "a product out of range", []float32{0x1p64, 0}, 1, 1, infinity)
	wantLagPower(t, "a sum out of range", []float32{0x1.8p63, 0x1.8p63, 0, 0}, 2, 2, infinity)
}

func TestChapter10LagPowersAreThoseOfTheDocument(t *testing.T) {
	for style := range styles {
		for seed, n := range []int{1, 2, 3, 8, 40, 255, 256} {
			x := samplesOfStyle(style, 9850+seed, n)
			for lag := 0; lag < n; lag += 1 + n/40 {
				for count := 1; lag+count <= n; count += 1 + n/30 {
					wantLagPower(t, "a power", x, int64(lag), int64(count), plainLagPower(x, lag, count))
				}
				wantLagPower(t, "the greatest count", x, int64(lag), int64(n-lag), plainLagPower(x, lag, n-lag))
			}
		}
	}
}

func wantNoLagPower(t *testing.T, what string, samples []float32, lag, count int64) {
	t.Helper()
	got, ok := impl.LagPower(samples, lag, count)
	wantZero(t, what, got, ok)
}

func farIntegers() []int64 {
	return []int64{math.MinInt64, math.MinInt64 + 1, math.MinInt64 + 256, -1 << 32, -257, -256, -1, 257, 1 << 32, 1<<32 + 1, math.MaxInt64 - 256, math.MaxInt64 - 1, math.MaxInt64}
}

func TestChapter10NoLagPowers(t *testing.T) {
	for n := range 258 {
		x := repeated(1, n)
		wantNoLagPower(t, "no count", x, 0, 0)
		wantNoLagPower(t, "no count", x, int64(n), 0)
		wantNoLagPower(t, "one sample too few", x, 0, int64(n)+1)
		wantNoLagPower(t, "one sample too few", x, int64(n), 1)
		wantNoLagPower(t, "one sample too few", x, int64(n/2), int64(n-n/2)+1)
		wantNoLagPower(t, "a lag less than 0", x, -1, 1)
		wantNoLagPower(t, "a lag less than 0", x, -1, int64(n)+1)
		wantNoLagPower(t, "a count less than 0", x, int64(n)+1, -1)
	}
	for _, n := range []int{0, 1, 2, 255, 256, 257, 1000} {
		x := repeated(1, n)
		for _, far := range farIntegers() {
			for _, near := range []int64{0, 1, 2, 100} {
				wantNoLagPower(t, "a far lag", x, far, near)
				wantNoLagPower(t, "a far count", x, near, far)
			}
			for _, other := range farIntegers() {
				wantNoLagPower(t, "both far", x, far, other)
			}
		}
	}
	wantNoLagPower(t, "too many samples", repeated(1, 257), 0, 257)
	wantNoLagPower(t, "too many samples", repeated(1, 257), 1, 1)
	wantNoLagPower(t, "too many samples", repeated(1, 1000), 1, 256)
}

// plainPitch does what the document tells of pitches, apart from the program.
func plainPitch(samples []float32, low, high int) (int64, float32, bool) {
	var best int64
	var least float32
	for lag := low; lag <= high; lag++ {
		power := plainLagPower(samples, lag, len(samples)-high)
		if !isNaN(power) && (best == 0 || power < least) {
			best, least = int64(lag), power
		}
	}
	return best, least, best != 0
}

func wantPitch(t *testing.T, what string, samples []float32, low, high, lag int64, power float32) {
	t.Helper()
	got, least, ok := impl.PitchOf(samples, low, high)
	if !ok || got != lag || oneBits(least) != oneBits(power) {
		t.Errorf("%s: got %d %v %v, want %d %v", what, got, least, ok, lag, power)
	}
}

func wantNoPitch(t *testing.T, what string, samples []float32, low, high int64) {
	t.Helper()
	lag, power, ok := impl.PitchOf(samples, low, high)
	wantZero(t, what, lag, ok)
	wantZero(t, what, oneBits(power), ok)
}

func TestChapter10PitchesByHand(t *testing.T) {
	wantPitch(t, "the example", wave(8), 2, 5, 4, 0)
	wantPitch(t, "the first period", wave(64), 1, 40, 4, 0)
	wantPitch(t, "the second period", wave(64), 5, 40, 8, 0)
	wantPitch(t, "a period at low", wave(64), 12, 40, 12, 0)
	wantPitch(t, "a period at high", wave(64), 37, 40, 40, 0)
	wantPitch(t, "no period", []float32{0, 5, 3, 9, 1, 2}, 1, 3, 2, 29)
	wantPitch(t, "as few lags as can be", []float32{0, 3, 5}, 1, 1, 1, 13)
	wantPitch(t, "the last lag", []float32{0, 3, 5}, 2, 2, 2, 25)
	wantPitch(t, "two samples", []float32{7, 4}, 1, 1, 1, 9)
	wantPitch(t, "silence", make([]float32, 256), 1, 255, 1, 0)
	wantPitch(t, "silence from a lag on", make([]float32, 256), 200, 255, 200, 0)
	wantPitch(t, "the first one of several", []float32{0, 2, -2, 2, 2, -2}, 1, 5, 1, 4)
}

func TestChapter10PitchesLeaveNotANumbersOut(t *testing.T) {
	x := []float32{1, 9, notANum, 7, 2}
	wantPitch(t, "a lag to a not-a-number", x, 1, 4, 4, 1)
	wantPitch(t, "the only other lag", []float32{1, notANum, 4}, 1, 2, 2, 9)
	wantPitch(t, "the first lag", []float32{1, 4, notANum}, 1, 2, 1, 9)
	wantPitch(t, "infinite powers", []float32{infinity, 1, 2, 3}, 1, 3, 1, infinity)
	wantPitch(t, "infinities and not-a-numbers", []float32{infinity, infinity, infinity, 1, 2}, 1, 4, 3, infinity)
	wantPitch(t, "out of range", []float32{largest, -largest, 0, -1}, 1, 3, 1, infinity)
	wantPitch(t, "the only finite one", []float32{largest, 0, -largest, largest}, 1, 3, 3, 0)
	wantPitch(t, "an infinity at the end", []float32{1, 2, 3, infinity}, 1, 3, 1, 1)
}

func TestChapter10NoPitches(t *testing.T) {
	for high := int64(1); high < 8; high++ {
		for low := int64(1); low <= high; low++ {
			wantNoPitch(t, "a not-a-number first", append([]float32{notANum}, repeated(1, 7)...), low, high)
			wantNoPitch(t, "not-a-numbers", repeated(-notANum, 8), low, high)
			wantNoPitch(t, "infinities", repeated(infinity, 8), low, high)
		}
	}
	for _, n := range []int{0, 1, 2, 3, 8, 255, 256, 257, 1000} {
		x := repeated(1, n)
		last := int64(n)
		for _, pair := range [][2]int64{{0, 0}, {0, 1}, {0, last - 1}, {-1, last - 1}, {2, 1}, {last, last - 1}, {1, last}, {last, last}, {1, last + 1}, {1, 0}} {
			wantNoPitch(t, "wrong lags", x, pair[0], pair[1])
		}
		for _, far := range farIntegers() {
			wantNoPitch(t, "a far low", x, far, last-1)
			wantNoPitch(t, "a far high", x, 1, far)
			for _, other := range farIntegers() {
				wantNoPitch(t, "both far", x, far, other)
			}
		}
	}
	for _, n := range []int{257, 1000} {
		wantNoPitch(t, "too many samples", repeated(1, n), 1, 1)
		wantNoPitch(t, "too many samples", repeated(1, n), 1, 256)
		wantNoPitch(t, "too many samples", repeated(1, n), 257, 257)
	}
}

func TestChapter10PitchesAreThoseOfTheDocument(t *testing.T) {
	for style := range styles {
		for _, n := range []int{2, 3, 4, 5, 9, 16} {
			for seed := range 6 {
				x := samplesOfStyle(style, 9900+10*n+seed, n)
				if seed > 2 {
					copy(x[n/2:], x) // Equal powers are more frequent with it.
				}
				for high := 1; high < n; high++ {
					for low := 1; low <= high; low++ {
						if lag, power, ok := plainPitch(x, low, high); ok {
							wantPitch(t, "a pitch", x, int64(low), int64(high), lag, power)
						} else {
							wantNoPitch(t, "no pitch", x, int64(low), int64(high))
						}
					}
				}
			}
		}
		for seed, pair := range [][2]int{{1, 255}, {1, 128}, {1, 1}, {255, 255}, {40, 200}, {100, 101}} {
			x := finiteSamples(style, 9990+seed, 256)
			lag, power, _ := plainPitch(x, pair[0], pair[1])
			wantPitch(t, "a pitch of many samples", x, int64(pair[0]), int64(pair[1]), lag, power)
		}
	}
}

// Each lag is the best one once, in either half of the lags, with others of the same power behind it.
func TestChapter10PitchesStayTheSame(t *testing.T) {
	for high := int64(1); high < 12; high++ {
		for best := int64(1); best <= high; best++ {
			x := make([]float32, high+1)
			x[0] = 1
			for lag := best; lag <= high; lag++ {
				x[lag] = 3
			}
			for lag := int64(1); lag < best; lag++ {
				x[lag] = 4
			}
			for range 60 {
				wantPitch(t, "the same again", x, 1, high, best, 4)
			}
		}
	}
}
