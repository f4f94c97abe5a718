package tests

import (
	"math"
	"testing"

	"loop.example/g01170/impl"
)

// plainRootOf is RootNumber of a number, apart from the program.
func plainRootOf(x float32) float32 { return float32(math.Sqrt(float64(x))) }

// plainLikeness does what the document tells of likeness, apart from the program.
func plainLikeness(left, right []float32) float32 {
	product := times(plainDot(left, left), plainDot(right, right))
	return over(plainDot(left, right), plainRootOf(product))
}

func wantLikeness(t *testing.T, what string, left, right []float32, want float32) {
	t.Helper()
	got, ok := impl.LikenessOf(left, right)
	wantSum(t, what, got, ok, want)
	got, ok = impl.LikenessOf(right, left)
	wantSum(t, what+", the other way", got, ok, want)
}

func TestChapter10LikenessByHand(t *testing.T) {
	wantLikeness(t, "the same", []float32{1, 2, -3}, []float32{1, 2, -3}, 1)
	wantLikeness(t, "louder", []float32{1, 0}, []float32{2, 0}, 1)
	wantLikeness(t, "opposite", []float32{1, 0}, []float32{-2, 0}, -1)
	wantLikeness(t, "nothing in common", []float32{1, 0}, []float32{0, 5}, 0)
	wantLikeness(t, "in between", []float32{4, 0}, []float32{3, 4}, 0.6)
	wantLikeness(t, "one sample", []float32{3}, []float32{-5}, -1)
	wantLikeness(t, "a root that is rounded", []float32{1, 0}, []float32{1, 1}, over(1, plainRootOf(2)))
	wantLikeness(t, "the most samples", repeated(2, 256), repeated(-2, 256), -1)
	wantLikeness(t, "a sum of -0", []float32{minus0, 1}, []float32{1, minus0}, 0)
}

func TestChapter10LikenessOfSilence(t *testing.T) {
	for _, n := range []int{1, 2, 256} {
		wantLikeness(t, "silence", make([]float32, n), make([]float32, n), notANum)
		wantLikeness(t, "silence with signs", repeated(minus0, n), make([]float32, n), notANum)
		wantLikeness(t, "one channel of silence", make([]float32, n), repeated(1, n), notANum)
		wantLikeness(t, "products below all numbers", repeated(tiny, n), repeated(-tiny, n), notANum)
		wantLikeness(t, "products of one channel below all numbers", repeated(tiny, n), repeated(1, n), infinity)
	}
}

func TestChapter10LikenessOfAnyNumbers(t *testing.T) {
	wantLikeness(t, "a product out of range", []float32{1e10}, []float32{1e10}, 0)
	wantLikeness(t, "and its opposite", []float32{1e10}, []float32{-1e10}, minus0)
	wantLikeness(t, "a product below all numbers", []float32{1e-12}, []float32{1e-12}, infinity)
	wantLikeness(t, "and its opposite", []float32{1e-12}, []float32{-1e-12}, -infinity)
	wantLikeness(t, "a subnormal product", []float32{0x1p-36}, []float32{0x1p-36}, 1)
	wantLikeness(t, "sums out of range", []float32{largest}, []float32{largest}, notANum)
	wantLikeness(t, "one sum out of range", []float32{largest}, []float32{1}, 0)
	wantLikeness(t, "an infinity", []float32{infinity}, []float32{1}, notANum)
	wantLikeness(t, "an infinity beside a zero", []float32{infinity, 1}, []float32{0, 1}, notANum)
	wantLikeness(t, "a not-a-number", []float32{1, notANum}, []float32{1, 1}, notANum)
	wantLikeness(t, "products are rounded on their own", []float32{1 + 0x1p-12, -1 - 0x1p-11}, []float32{1 + 0x1p-12, 1}, 0)
}

// plainBalance does what the document tells of balance, apart from the program.
func plainBalance(left, right []float32) float32 {
	l, r := plainRoot(left), plainRoot(right)
	if plus(r, l) == 0 {
		return 0
	}
	return over(plus(r, -l), plus(r, l))
}

func wantBalance(t *testing.T, what string, left, right []float32, want float32) {
	t.Helper()
	got, ok := impl.BalanceOf(left, right)
	wantSum(t, what, got, ok, want)
}

func TestChapter10BalanceByHand(t *testing.T) {
	wantBalance(t, "more right", []float32{1, 1}, []float32{3, -3}, 0.5)
	wantBalance(t, "more left", []float32{3, -3}, []float32{1, 1}, -0.5)
	wantBalance(t, "as loud", []float32{3, -3}, []float32{-3, -3}, 0)
	wantBalance(t, "right alone", []float32{0, minus0}, []float32{1, 7}, 1)
	wantBalance(t, "left alone", []float32{1, 7}, []float32{0, minus0}, -1)
	wantBalance(t, "one sample", []float32{1}, []float32{-7}, 0.75)
	wantBalance(t, "the most samples", repeated(7, 256), repeated(1, 256), -0.75)
	wantBalance(t, "a quotient that is rounded", []float32{1}, []float32{2}, over(1, 3))
	wantBalance(t, "silence", make([]float32, 3), make([]float32, 3), 0)
	wantBalance(t, "silence with signs", repeated(minus0, 256), repeated(minus0, 256), 0)
}

func TestChapter10BalanceOfAnyNumbers(t *testing.T) {
	wantBalance(t, "products below all numbers are silence", []float32{0x1p-76}, []float32{-tiny}, 0)
	wantBalance(t, "right of silence", []float32{0x1p-76}, []float32{0x1p-74}, 1)
	wantBalance(t, "great numbers", []float32{0x1p63}, []float32{0x1.8p63}, over(0.5, 2.5))
	wantBalance(t, "an infinity", []float32{infinity}, []float32{1}, notANum)
	wantBalance(t, "an infinity on the right", []float32{1}, []float32{-infinity}, notANum)
	wantBalance(t, "out of range", []float32{largest}, []float32{largest}, notANum)
	wantBalance(t, "a not-a-number", []float32{notANum}, []float32{1}, notANum)
	wantBalance(t, "a not-a-number beside silence", []float32{0}, []float32{notANum}, notANum)
}

func TestChapter10ChannelsAreThoseOfTheDocument(t *testing.T) {
	for style := range styles {
		for n := 1; n <= 256; n++ {
			left, right := samplesOfStyle(style, 10400+n, n), samplesOfStyle(style, 10500+n, n)
			wantLikeness(t, "likeness", left, right, plainLikeness(left, right))
			wantBalance(t, "balance", left, right, plainBalance(left, right))
			soft := scaled(left, 0x1p-62)
			wantLikeness(t, "likeness of a soft channel", soft, right, plainLikeness(soft, right))
			wantBalance(t, "balance of a soft channel", soft, right, plainBalance(soft, right))
		}
	}
	for _, a := range edgeNumbers() {
		for _, b := range edgeNumbers() {
			left, right := []float32{a, 1, b}, []float32{b, 0.5, 2}
			wantLikeness(t, "likeness of edges", left, right, plainLikeness(left, right))
			wantBalance(t, "balance of edges", left, right, plainBalance(left, right))
		}
	}
}

func TestChapter10NoChannels(t *testing.T) {
	counts := []int{0, 1, 2, 255, 256, 257, 1000}
	for _, l := range counts {
		for _, r := range counts {
			if l == r && l >= 1 && l <= 256 {
				continue
			}
			left, right := repeated(1, l), repeated(2, r)
			got, ok := impl.LikenessOf(left, right)
			wantZero(t, "likeness", got, ok)
			got, ok = impl.BalanceOf(left, right)
			wantZero(t, "balance", got, ok)
		}
	}
	got, ok := impl.LikenessOf(nil, []float32{})
	wantZero(t, "likeness of no samples", got, ok)
	got, ok = impl.BalanceOf([]float32{}, nil)
	wantZero(t, "balance of no samples", got, ok)
}

// plainSpreadOf does what the document tells of spreads, apart from the program.
func plainSpreadOf(samples []float32, parts int64) []int64 {
	spread := make([]int64, parts)
	for part := range parts {
		for _, x := range samples {
			share := (float64(x) + 1) / 2 * float64(parts)
			if x >= -1 && x < 1 && math.Floor(share) == float64(part) {
				spread[part]++
			}
		}
	}
	return spread
}

func wantSpreadOf(t *testing.T, what string, samples []float32, parts int64, want ...int64) {
	t.Helper()
	got, ok := impl.SpreadOf(samples, parts)
	wantIntegers(t, what, got, ok, want)
}

func TestChapter10SpreadsByHand(t *testing.T) {
	wantSpreadOf(t, "one each", []float32{-1, -0.5, 0, 0.75, 1}, 4, 1, 1, 1, 1)
	wantSpreadOf(t, "several", []float32{-1, -0.9, 0.1, 0.2, 0.3, 0.9}, 3, 2, 3, 1)
	wantSpreadOf(t, "one part", []float32{-1, 0, 0.5, 1, -2}, 1, 3)
	wantSpreadOf(t, "no samples", nil, 3, 0, 0, 0)
	wantSpreadOf(t, "no samples, one part", []float32{}, 1, 0)
	wantSpreadOf(t, "one sample", []float32{minus0}, 2, 0, 1)
	wantSpreadOf(t, "others are in none", []float32{1, infinity, -infinity, notANum, -notANum, largest, -largest, rawNumber(0xbf800001)}, 2, 0, 0)
	wantSpreadOf(t, "the most samples", repeated(-0.25, 256), 4, 0, 256, 0, 0)
	wantSpreadOf(t, "just below 0", []float32{-0x1p-53, -0x1p-26, 0x1p-26}, 2, 2, 1)
	wantSpreadOf(t, "nearer to 0 than 64-bit numbers tell beside 1", []float32{-0x1p-54, -tiny, 0, tiny}, 2, 0, 4)
	wantSpreadOf(t, "between parts of a third", []float32{rawNumber(0xbeaaaaab), rawNumber(0xbeaaaaaa), rawNumber(0x3eaaaaaa), rawNumber(0x3eaaaaab)}, 3, 1, 2, 1)
}

func TestChapter10SpreadsAtBothEnds(t *testing.T) {
	for parts := int64(1); parts <= 64; parts++ {
		want := make([]int64, parts)
		want[0]++
		wantSpreadOf(t, "-1", []float32{-1, 1, rawNumber(0xbf800001)}, parts, want...)
		want[parts-1]++
		wantSpreadOf(t, "just less than 1", []float32{-1, rawNumber(0x3f7fffff), notANum}, parts, want...)
	}
	middles, want := make([]float32, 64), make([]int64, 64)
	for i := range middles {
		middles[i], want[i] = float32(2*i+1)/64-1, 1
	}
	wantSpreadOf(t, "a sample in each part", middles, 64, want...)
}

func TestChapter10SpreadsAreThoseOfTheDocument(t *testing.T) {
	for style := range styles {
		for seed, n := range lengths() {
			x := append(samplesOfStyle(style, 10600+seed, n/2), scaled(mixedSamples(10620+seed, n-n/2), 1.0/64)...)
			for parts := int64(1); parts <= 64; parts++ {
				wantSpreadOf(t, "a spread", x, parts, plainSpreadOf(x, parts)...)
			}
		}
	}
	for parts := int64(1); parts <= 64; parts++ {
		wantSpreadOf(t, "edges", edgeNumbers(), parts, plainSpreadOf(edgeNumbers(), parts)...)
		for part := range parts {
			border := float32(2*float64(part)/float64(parts) - 1)
			x := []float32{border, impl.NextUp(border), impl.NextDown(border), impl.NextUp(impl.NextUp(border))}
			wantSpreadOf(t, "a border", x, parts, plainSpreadOf(x, parts)...)
		}
	}
}

func TestChapter10NoSpreads(t *testing.T) {
	for _, n := range []int{0, 1, 256, 257, 1000} {
		x := repeated(0.5, n)
		for _, parts := range []int64{0, -1, 65, 1000, 1 << 32, 1<<32 + 1, math.MinInt64, math.MinInt64 + 1, math.MaxInt64} {
			got, ok := impl.SpreadOf(x, parts)
			wantNoList(t, "a wrong number of parts", got, ok)
		}
		if n > 256 {
			got, ok := impl.SpreadOf(x, 4)
			wantNoList(t, "too many samples", got, ok)
		}
	}
}
