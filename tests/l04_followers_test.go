package tests

import (
	"math"
	"testing"

	"loop.example/g01170/impl"
)

// over is rounded as times and plus are.
func over(a, b float32) float32 { return float32(float64(a) / float64(b)) }

func plainSize(x float32) float32 { return float32(math.Abs(float64(x))) }

// plainLevels does what the document tells of followers, apart from the program.
func plainLevels(f impl.Follower, samples []float32) ([]float32, impl.Follower) {
	var levels []float32
	for _, x := range samples {
		a, c := plainSize(x), f.Release
		if a > f.Level {
			c = f.Attack
		}
		f.Level = flushedIf(true, plus(f.Level, times(c, plus(a, -f.Level))))
		levels = append(levels, f.Level)
	}
	return levels, f
}

func plainGain(level, threshold, ratio float32) float32 {
	if level > threshold {
		return over(plus(threshold, over(plus(level, -threshold), ratio)), level)
	}
	return 1
}

func plainDuck(s impl.Squeeze, samples, side []float32) ([]float32, impl.Squeeze) {
	var results, levels []float32
	levels, s.Follower = plainLevels(s.Follower, side)
	for i, x := range samples {
		results = append(results, times(x, plainGain(levels[i], s.Threshold, s.Ratio)))
	}
	return results, s
}

func followerOf(n []float32) impl.Follower {
	return impl.Follower{Attack: n[0], Release: n[1], Level: n[2]}
}

func squeezeOf(n []float32) impl.Squeeze {
	return impl.Squeeze{Follower: followerOf(n), Threshold: n[3], Ratio: n[4]}
}

func followerNumbers(f impl.Follower) []float32 { return []float32{f.Attack, f.Release, f.Level} }

func squeezeNumbers(s impl.Squeeze) []float32 {
	return append(followerNumbers(s.Follower), s.Threshold, s.Ratio)
}

// followersOfStyle have mostly shares from 0 to 1, behind a first one with any numbers.
func followersOfStyle(style, seed int) []impl.Follower {
	list := []impl.Follower{followerOf(samplesOfStyle(style, seed, 3))}
	for i := range 3 {
		n := gainsOfStyle(style, seed+i+1, 3)
		list = append(list, impl.Follower{Attack: plainSize(n[0]), Release: plainSize(n[1]), Level: n[2]})
	}
	return list
}

func wantLevels(t *testing.T, what string, f impl.Follower, samples, want []float32, last float32) {
	t.Helper()
	got, next, ok := impl.FollowLevel(f, samples)
	wantSamples(t, what, got, ok, want)
	wantSamples(t, what+", the follower", followerNumbers(next), ok, []float32{f.Attack, f.Release, last})
}

func wantSqueezed(t *testing.T, what string, s impl.Squeeze, samples, side, want []float32, last float32) {
	t.Helper()
	got, next, ok := impl.DuckSamples(s, samples, side)
	wantSamples(t, what, got, ok, want)
	end := s
	end.Follower.Level = last
	wantSamples(t, what+", the squeeze", squeezeNumbers(next), ok, squeezeNumbers(end))
	if sameBits(samples, side) {
		got, next, ok = impl.RunSqueeze(s, samples)
		wantSamples(t, what+", by themselves", got, ok, want)
		wantSamples(t, what+", by themselves, the squeeze", squeezeNumbers(next), ok, squeezeNumbers(end))
	}
}

func TestChapter4LevelsByHand(t *testing.T) {
	f := impl.Follower{Attack: 0.5, Release: 0.25}
	wantLevels(t, "the example", f, []float32{1, 1, 0}, []float32{0.5, 0.75, 0.5625}, 0.5625)
	wantLevels(t, "sizes have no signs", f, []float32{-1, -1, minus0}, []float32{0.5, 0.75, 0.5625}, 0.5625)
	wantLevels(t, "a level below zero", impl.Follower{Attack: 0.5, Release: 0.25, Level: -1}, []float32{-1, 0}, []float32{0, 0}, 0)
	wantLevels(t, "no samples", impl.Follower{Attack: notANum, Release: minus0, Level: tiny}, nil, nil, tiny)
	wantLevels(t, "shares of 0 and 1", impl.Follower{Attack: 1, Level: 2}, []float32{1, 3, -4, 2}, []float32{2, 3, 4, 4}, 4)
	wantLevels(t, "shares beyond 1", impl.Follower{Attack: 2, Release: -1}, []float32{1, 1}, []float32{2, 3}, 3)
}

func TestChapter4ReleaseIfASizeIsNotGreater(t *testing.T) {
	wantLevels(t, "equal sizes", impl.Follower{Attack: 0.5, Release: notANum, Level: 1}, []float32{1}, []float32{notANum}, notANum)
	wantLevels(t, "just greater", impl.Follower{Attack: 1, Release: notANum, Level: 1}, []float32{-1 - 0x1p-23}, []float32{1 + 0x1p-23}, 1+0x1p-23)
	for _, zero := range []float32{0, minus0} {
		for _, level := range []float32{0, minus0} {
			wantLevels(t, "zeros are equal", impl.Follower{Attack: notANum, Release: 1, Level: level}, []float32{zero}, []float32{0}, 0)
		}
	}
	wantLevels(t, "the size of -0 is +0", impl.Follower{Attack: 1, Release: -1, Level: minus0}, []float32{minus0}, []float32{minus0}, minus0)
	f := impl.Follower{Attack: 0.5, Release: 0.5, Level: 1}
	wantLevels(t, "a not-a-number stays", f, []float32{notANum, 1, 0}, repeated(notANum, 3), notANum)
	f.Level = notANum
	wantLevels(t, "also as the level", f, []float32{2, infinity}, repeated(notANum, 2), notANum)
	f.Level = 0
	wantLevels(t, "infinities", f, []float32{-infinity, 1}, []float32{infinity, notANum}, notANum)
	wantLevels(t, "two infinities", f, []float32{infinity, infinity}, []float32{infinity, notANum}, notANum)
}

func TestChapter4LevelsAreFlushed(t *testing.T) {
	least := float32(0x1p-126)
	f := impl.Follower{Attack: 0.5, Release: 0.5, Level: least}
	wantLevels(t, "a level", f, []float32{0}, []float32{0}, 0)
	f.Level = -least
	wantLevels(t, "with its sign", f, []float32{0}, []float32{minus0}, minus0)
	f.Level = 2 * least
	wantLevels(t, "the least normal number stays", f, []float32{minus0}, []float32{least}, least)
	wantLevels(t, "sizes are not flushed", impl.Follower{Attack: 0x1p23}, []float32{-tiny}, []float32{least}, least)
	wantLevels(t, "nor the first level", impl.Follower{Attack: 0x1p23, Release: -1, Level: 2 * tiny}, []float32{tiny, 3 * tiny},
		[]float32{0, 3 * least}, 3*least)
}

func TestChapter4ProductsOfLevelsAreRoundedOnTheirOwn(t *testing.T) {
	x := 1 + float32(1)/4096
	square := 1 + float32(1)/2048 // The product of x and x is this and 2^-24, which is rounded away.
	wantLevels(t, "Attack", impl.Follower{Attack: -x, Release: 3, Level: square}, []float32{x + square}, []float32{0}, 0)
	wantLevels(t, "Release", impl.Follower{Attack: 3, Release: x, Level: x}, []float32{0}, []float32{x - square}, x-square)
}

func TestChapter4LevelsAreThoseOfTheDocument(t *testing.T) {
	for style := range styles {
		for i, n := range lengths() {
			for _, f := range followersOfStyle(style, 600+10*i) {
				samples := samplesOfStyle(style, 610+i, n)
				want, last := plainLevels(f, samples)
				wantLevels(t, "a follower", f, samples, want, last.Level)
			}
		}
	}
}

func TestChapter4GainsByHand(t *testing.T) {
	for _, c := range []struct{ level, threshold, ratio, want float32 }{
		{4, 1, 2, 0.625},
		{0.5, 1, 2, 1},
		{1, 1, notANum, 1},
		{1 + 0x1p-23, 1, infinity, over(1, 1+0x1p-23)},
		{4, 1, infinity, 0.25},
		{4, 1, -1, -0.5},
		{4, 1, 0.5, 1.75},
		{4, 1, 0, infinity},
		{4, 1, minus0, -infinity},
		{4, 1, notANum, notANum},
		{4, 0, 2, 0.5},
		{4, minus0, 2, 0.5},
		{4, -2, 2, 0.25},
		{-1, -2, 2, 1.5},
		{-3, -2, 2, 1},
		{0, minus0, 2, 1},
		{minus0, 0, 0, 1},
		{0, 0, 0, 1},
		{0, 1, 2, 1},
		{0, -1, 2, -infinity},
		{minus0, -1, 2, infinity},
		{0, -1, 1, notANum},
		{0, -1, 0, infinity},
		{notANum, 1, 2, 1},
		{4, notANum, 2, 1},
		{notANum, notANum, notANum, 1},
		{infinity, 1, 2, notANum},
		{infinity, 1, infinity, notANum},
		{infinity, infinity, 2, 1},
		{4, -infinity, 2, notANum},
		{tiny, 0, 2, 0},
	} {
		wantNumber(t, "GainFor", impl.GainFor(c.level, c.threshold, c.ratio), c.want)
	}
}

func TestChapter4GainsAreThoseOfTheDocument(t *testing.T) {
	for _, level := range edgeNumbers() {
		for _, threshold := range edgeNumbers() {
			for _, ratio := range append(edgeNumbers(), 3) {
				wantNumber(t, "a gain", impl.GainFor(level, threshold, ratio), plainGain(level, threshold, ratio))
			}
		}
	}
	for i := range 4000 {
		n := samplesOfStyle(i%styles, 620+i, 3)
		wantNumber(t, "a gain", impl.GainFor(n[0], n[1], n[2]), plainGain(n[0], n[1], n[2]))
	}
}

func TestChapter4SqueezesByHand(t *testing.T) {
	s := squeezeOf([]float32{1, 1, 0, 1, 2})
	x := []float32{4, 0.5, -4}
	wantSqueezed(t, "the level behind the sample", s, x, x, []float32{2.5, 0.5, -2.5}, 4)
	wantSqueezed(t, "by others", s, []float32{8, 8}, []float32{4, 0}, []float32{5, 8}, 0)
	wantSqueezed(t, "only the side is followed", s, []float32{1000, minus0}, []float32{0, -4}, []float32{1000, minus0}, 4)
	wantSqueezed(t, "no samples", squeezeOf([]float32{1, 2, tiny, 0, notANum}), nil, nil, nil, tiny)
	slow := squeezeOf([]float32{0.5, 0.25, 0, 1, 2})
	x = []float32{8, 0, 5}
	wantSqueezed(t, "levels go on", slow, x, x, []float32{5, 0, 3.125}, 4)
	wantSqueezed(t, "a gain 0 for infinities", squeezeOf([]float32{1, 1, 0, 0, infinity}), []float32{infinity, 1}, []float32{1, 1}, []float32{notANum, 0}, 1)
	wantSqueezed(t, "products are not flushed", s, []float32{tiny, -4 * tiny}, []float32{0, 4}, []float32{tiny, -2 * tiny}, 4)
}

func TestChapter4SqueezesAtLevelsOfZero(t *testing.T) {
	for _, zero := range []float32{0, minus0} {
		side := repeated(zero, 3)
		x := []float32{1, minus0, infinity}
		wantSqueezed(t, "a threshold of 0", squeezeOf([]float32{1, 1, 0, 0, 0}), x, side, x, 0)
		wantSqueezed(t, "a threshold of -0", squeezeOf([]float32{1, 1, 0, minus0, 0}), x, side, x, 0)
		wantSqueezed(t, "below 0", squeezeOf([]float32{1, 1, 0, -1, 2}), x, side, []float32{-infinity, notANum, -infinity}, 0)
		wantSqueezed(t, "0 by 0", squeezeOf([]float32{1, 1, 0, -1, 1}), x, side, repeated(notANum, 3), 0)
	}
}

func TestChapter4SqueezesAreThoseOfTheDocument(t *testing.T) {
	for style := range styles {
		for i, n := range lengths() {
			for k, f := range followersOfStyle(style, 630+10*i) {
				numbers := samplesOfStyle(style, 640+4*i+k, 2)
				s := impl.Squeeze{Follower: f, Threshold: numbers[0], Ratio: numbers[1]}
				x, side := samplesOfStyle(style, 650+i, n), samplesOfStyle(style, 660+i, n)
				want, last := plainDuck(s, x, x)
				wantSqueezed(t, "a squeeze", s, x, x, want, last.Follower.Level)
				want, last = plainDuck(s, x, side)
				wantSqueezed(t, "a squeeze by others", s, x, side, want, last.Follower.Level)
			}
		}
	}
}

func TestChapter4TooManyFollowedSamples(t *testing.T) {
	f, s := impl.Follower{Attack: 0.5, Release: 0.5, Level: 1}, squeezeOf([]float32{1, 1, 1, 1, 2})
	for _, n := range []int{257, 1000} {
		levels, follower, ok := impl.FollowLevel(f, make([]float32, n))
		wantNoList(t, "FollowLevel", levels, ok)
		wantZero(t, "FollowLevel", follower, ok)
		samples, squeeze, ok := impl.RunSqueeze(s, make([]float32, n))
		wantNoList(t, "RunSqueeze", samples, ok)
		wantZero(t, "RunSqueeze", squeeze, ok)
	}
}

func TestChapter4SidesOfOtherLengths(t *testing.T) {
	s := squeezeOf([]float32{1, 1, 1, 1, 2})
	for _, n := range [][2]int{{0, 1}, {1, 0}, {1, 2}, {2, 1}, {255, 256}, {256, 255}, {256, 257}, {257, 256}, {257, 257}, {1000, 1000}} {
		samples, squeeze, ok := impl.DuckSamples(s, make([]float32, n[0]), make([]float32, n[1]))
		wantNoList(t, "DuckSamples", samples, ok)
		wantZero(t, "DuckSamples", squeeze, ok)
	}
}
