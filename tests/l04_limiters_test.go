package tests

import (
	"slices"
	"testing"

	"loop.example/g01170/impl"
)

// plainLimiter does what the document tells of limiters, apart from the program.
func plainLimiter(l impl.Limiter, samples []float32) ([]float32, impl.Limiter) {
	var outputs []float32
	window := slices.Clone(l.Ahead)
	for _, x := range samples {
		window = append(window, x)
		var p, t float32 = 0, 1
		for _, y := range window {
			if plainSize(y) > p {
				p = plainSize(y)
			}
		}
		if p > l.Limit {
			t = over(l.Limit, p)
		}
		l.Gain = plus(l.Gain, l.Rise)
		if t < l.Gain || isNaN(l.Gain) {
			l.Gain = t
		}
		outputs = append(outputs, plainClip(times(window[0], l.Gain), l.Limit))
		window = window[1:]
	}
	l.Ahead = window
	return outputs, l
}

func limiterNumbers(l impl.Limiter) []float32 {
	return append([]float32{l.Limit, l.Rise, l.Gain}, l.Ahead...)
}

func wantLimited(t *testing.T, what string, l impl.Limiter, samples, want []float32, gain float32, ahead []float32) {
	t.Helper()
	got, next, ok := impl.RunLimiter(l, samples)
	wantSamples(t, what, got, ok, want)
	l.Gain, l.Ahead = gain, ahead
	wantSamples(t, what+", the limiter", limiterNumbers(next), ok, limiterNumbers(l))
}

func wantPlainlyLimited(t *testing.T, what string, l impl.Limiter, samples []float32) {
	t.Helper()
	want, last := plainLimiter(l, samples)
	wantLimited(t, what, l, samples, want, last.Gain, last.Ahead)
}

// isRightLimit tells limits by their bits.
func isRightLimit(limit float32) bool {
	bits := oneBits(limit)
	return bits >= 1 && bits <= 0x7f7fffff
}

func rightLimits() []float32 {
	return slices.DeleteFunc(edgeNumbers(), func(x float32) bool { return !isRightLimit(x) })
}

func wrongLimits() []float32 { return slices.DeleteFunc(edgeNumbers(), isRightLimit) }

func TestChapter4NewLimiters(t *testing.T) {
	for _, limit := range append(rightLimits(), 0.3) {
		for _, rise := range append(edgeNumbers(), -0.3) {
			for ahead := range 65 {
				l, ok := impl.NewLimiter(limit, rise, int64(ahead))
				wantSamples(t, "NewLimiter", limiterNumbers(l), ok, append([]float32{limit, rise, 1}, make([]float32, ahead)...))
			}
		}
	}
}

func wantNoLimiter(t *testing.T, what string, l impl.Limiter, ok bool) {
	t.Helper()
	wantNoList(t, what, l.Ahead, ok)
	wantZero(t, what, [3]uint32{oneBits(l.Limit), oneBits(l.Rise), oneBits(l.Gain)}, ok)
}

func TestChapter4NoNewLimiters(t *testing.T) {
	for _, limit := range wrongLimits() {
		for _, ahead := range []int64{0, 1, 64} {
			l, ok := impl.NewLimiter(limit, 0.5, ahead)
			wantNoLimiter(t, "no limit", l, ok)
		}
	}
	for _, ahead := range append(wrongLengths(), -2, 66) {
		if ahead == 0 {
			continue
		}
		l, ok := impl.NewLimiter(1, 0.5, ahead)
		wantNoLimiter(t, "a wrong number of samples ahead", l, ok)
	}
}

func TestChapter4LimitersByHand(t *testing.T) {
	l := impl.Limiter{Limit: 0.5, Gain: 1, Ahead: []float32{0}}
	wantLimited(t, "the example", l, []float32{0.5, 1, 0}, []float32{0, 0.25, 0.5}, 0.5, []float32{0})
	l = impl.Limiter{Limit: 0.5, Rise: 0.25, Gain: 1}
	wantLimited(t, "no sample ahead", l, []float32{2, 0.25, -0.25, 0.25}, []float32{0.5, 0.125, -0.1875, 0.25}, 1, nil)
	l = impl.Limiter{Limit: 1, Rise: infinity, Gain: 1, Ahead: []float32{0, 0}}
	wantLimited(t, "two samples ahead", l, []float32{1, -4, 1, 1, 1, 2}, []float32{0, 0, 0.25, -1, 1, 0.5}, 0.5, []float32{1, 2})
	wantLimited(t, "fewer samples than are ahead", l, []float32{3}, []float32{0}, over(1, 3), []float32{0, 3})
	l.Ahead = []float32{4, 3, 2}
	wantLimited(t, "what is ahead at first counts", l, []float32{1, 1, 0.5, 1}, []float32{1, 1, 1, 1}, 1, []float32{1, 0.5, 1})
	l.Gain, l.Rise = notANum, minus0
	wantLimited(t, "no samples", l, nil, nil, notANum, l.Ahead)
	l = impl.Limiter{Limit: 1, Gain: 0.5}
	wantLimited(t, "at the limit", l, []float32{1, -1, 2, 0.5}, []float32{0.5, -0.5, 1, 0.25}, 0.5, nil)
}

func TestChapter4GainsOfLimiters(t *testing.T) {
	x := repeated(1, 6)
	wantLimited(t, "falling", impl.Limiter{Limit: 1, Rise: -0.25, Gain: 1}, x, []float32{0.75, 0.5, 0.25, 0, -0.25, -0.5}, -0.5, nil)
	wantLimited(t, "rising", impl.Limiter{Limit: 1, Rise: 0.25}, x, []float32{0.25, 0.5, 0.75, 1, 1, 1}, 1, nil)
	wantLimited(t, "rising beyond 1", impl.Limiter{Limit: 1, Rise: 0.75}, x, []float32{0.75, 1, 1, 1, 1, 1}, 1, nil)
	wantLimited(t, "too great at first", impl.Limiter{Limit: 1, Gain: 8}, x, x, 1, nil)
	wantLimited(t, "from below 0", impl.Limiter{Limit: 1, Rise: 4, Gain: -8}, x, []float32{-1, 0, 1, 1, 1, 1}, 1, nil)
	for _, k := range [][3]float32{{notANum, 1, 1}, {0, notANum, 0.5}, {infinity, -infinity, 1}, {infinity, 1, 1}} {
		l := impl.Limiter{Limit: 1, Rise: k[0], Gain: k[1]}
		wantLimited(t, "no sum, or an infinite one", l, []float32{0.5, 2, 0.5}, []float32{0.5, 1, times(0.5, k[2])}, k[2], nil)
	}
	wantLimited(t, "infinitely below 0", impl.Limiter{Limit: 1, Rise: -infinity, Gain: 1}, []float32{0.5, -0.5, 0}, []float32{-1, 1, notANum}, -infinity, nil)
	wantLimited(t, "infinite sums in turn", impl.Limiter{Limit: 1, Rise: -infinity, Gain: infinity}, []float32{0.5, 0.5}, []float32{0.5, -1}, -infinity, nil)
}

func TestChapter4LimitersWithInfinities(t *testing.T) {
	l := impl.Limiter{Limit: 1, Rise: 0.5, Gain: 1, Ahead: []float32{4}}
	wantLimited(t, "an infinity", l, []float32{infinity, 0.5, 0.5}, []float32{0, notANum, 0.25}, 0.5, []float32{0.5})
	wantLimited(t, "a negative one", l, []float32{-infinity, -0.5, 0.5}, []float32{0, notANum, -0.25}, 0.5, []float32{0.5})
	wantLimited(t, "the last one", l, []float32{-0.5, infinity}, []float32{1, minus0}, 0, []float32{infinity})
	l = impl.Limiter{Limit: 1, Gain: -1}
	wantLimited(t, "a gain below 0", l, []float32{infinity, -infinity, 0.5}, []float32{-1, 1, -0.5}, -1, nil)
	for _, k := range [][3]float32{{minus0, minus0, minus0}, {minus0, 0, 0}, {0, minus0, 0}, {1, 0, 0}} {
		l = impl.Limiter{Limit: 1, Rise: k[1], Gain: k[0], Ahead: []float32{2}}
		wantLimited(t, "t is +0", l, []float32{infinity}, []float32{times(2, k[2])}, k[2], []float32{infinity})
	}
}

func TestChapter4LimitersWithNotANumbers(t *testing.T) {
	none := repeated(notANum, 4)
	wantLimited(t, "nothing else", impl.Limiter{Limit: 1, Rise: 0.25, Gain: 0.5, Ahead: none}, none, none, 1, none)
	wantLimited(t, "nothing else, and none ahead", impl.Limiter{Limit: 1, Gain: 8}, none, none, 1, nil)
	l := impl.Limiter{Limit: 1, Rise: infinity, Gain: 1, Ahead: []float32{notANum, notANum}}
	wantLimited(t, "others count", l, []float32{-4, notANum, notANum, notANum, 2}, []float32{notANum, notANum, -1, notANum, notANum}, 0.5,
		[]float32{notANum, 2})
	wantLimited(t, "also behind greater ones", l, []float32{4, notANum, 2, notANum}, []float32{notANum, notANum, 1, notANum}, 0.5, []float32{2, notANum})
}

func TestChapter4LimitersAreNotFlushed(t *testing.T) {
	l := impl.Limiter{Limit: tiny, Rise: infinity, Gain: 1}
	wantLimited(t, "a subnormal limit", l, []float32{1, -1, largest, -tiny, 2 * tiny}, []float32{tiny, -tiny, 0, -tiny, tiny}, 0.5, nil)
	l.Limit = 0x1p-126
	wantLimited(t, "subnormal gains", l, []float32{0x1p20}, []float32{0x1p-126}, 0x1p-146, nil)
	wantLimited(t, "subnormal outputs", impl.Limiter{Limit: 1, Gain: 0.5}, []float32{0x1p-126, -3 * tiny}, []float32{0x1p-127, -2 * tiny}, 0.5, nil)
}

// stepsOf are samples of a few sizes, many of them equal.
func stepsOf(seed, count int) []float32 {
	few := []float32{0.25, -0.5, 1, -1, 2, -2, 3, 3, notANum, minus0, -8, 0.25}
	list := make([]float32, count)
	for i := range list {
		list[i] = few[mixedBits(seed, i)%uint32(len(few))]
	}
	return list
}

// slope has sizes that become greater or less by a factor from sample to sample.
func slope(first, by float32, count int) []float32 {
	list := make([]float32, count)
	for i := range list {
		list[i] = first
		first = times(first, -by)
	}
	return list
}

func TestChapter4WindowsOfAllLengths(t *testing.T) {
	for ahead := range 65 {
		for i, rise := range []float32{0, 0.125, infinity} {
			l := impl.Limiter{Limit: 1, Rise: rise, Gain: 1}
			for k := range 4 {
				l.Ahead = stepsOf(900+8*ahead+k, ahead)
				wantPlainlyLimited(t, "steps", l, stepsOf(1500+8*ahead+4*i+k, 256))
			}
			l.Ahead = slope(1000, 0.99, ahead)
			wantPlainlyLimited(t, "softer and softer", l, slope(500, 0.99, 256))
			l.Ahead = slope(0.001, 1.03, ahead)
			wantPlainlyLimited(t, "louder and louder", l, slope(0.01, 1.03, 256))
			wantPlainlyLimited(t, "equal ones", l, slices.Concat(repeated(3, 100), repeated(-2, 80), repeated(2, 76)))
		}
	}
}

// limiterOfStyle has any right limit, and mostly a gain and a rise from 0 to 1.
func limiterOfStyle(style, seed, ahead int) impl.Limiter {
	k := samplesOfStyle(style, seed, 4)
	l := impl.Limiter{Limit: plainSize(k[0]), Rise: plainSize(times(k[1], 0x1p-9)), Gain: plainSize(times(k[2], 0x1p-8)), Ahead: samplesOfStyle(style, seed+1, ahead)}
	if !isRightLimit(l.Limit) {
		l.Limit = 1
	}
	if seed%3 == 0 {
		l.Rise, l.Gain = k[1], k[2]
	}
	return l
}

func TestChapter4LimitersAreThoseOfTheDocument(t *testing.T) {
	for style := range styles {
		for i, n := range lengths() {
			for k, ahead := range []int{0, 1, 2, 3, 17, 63, 64} {
				for more := range 3 {
					l := limiterOfStyle(style, 2000+80*i+8*k+more, ahead)
					wantPlainlyLimited(t, "a limiter", l, samplesOfStyle(style, 3000+80*i+8*k+more, n))
				}
			}
		}
	}
}

func TestChapter4WrongLimiters(t *testing.T) {
	for _, x := range [][]float32{nil, {1}, make([]float32, 256)} {
		for _, limit := range wrongLimits() {
			for _, ahead := range []int{0, 1, 64} {
				got, l, ok := impl.RunLimiter(impl.Limiter{Limit: limit, Rise: 0.5, Gain: 1, Ahead: make([]float32, ahead)}, x)
				wantNoList(t, "no limit", got, ok)
				wantNoLimiter(t, "no limit", l, ok)
			}
		}
		for _, ahead := range []int{65, 66, 1000} {
			got, l, ok := impl.RunLimiter(impl.Limiter{Limit: 1, Rise: 0.5, Gain: 1, Ahead: make([]float32, ahead)}, x)
			wantNoList(t, "too many samples ahead", got, ok)
			wantNoLimiter(t, "too many samples ahead", l, ok)
		}
	}
	for _, n := range []int{257, 1000} {
		for _, ahead := range []int{0, 1, 64} {
			got, l, ok := impl.RunLimiter(impl.Limiter{Limit: 1, Rise: 0.5, Gain: 1, Ahead: make([]float32, ahead)}, make([]float32, n))
			wantNoList(t, "too many samples", got, ok)
			wantNoLimiter(t, "too many samples", l, ok)
		}
	}
}
