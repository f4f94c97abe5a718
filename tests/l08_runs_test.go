package tests

import (
	"math"
	"slices"
	"testing"

	"loop.example/g01170/impl"
)

// plainEffect does what the document tells of one sample and one effect, apart from the program.
func plainEffect(e impl.Effect, state []float32, x float32) (float32, []float32) {
	n := e.Numbers
	switch e.Kind {
	case impl.EffectGain:
		return times(x, n[0]), nil
	case impl.EffectFilter:
		y, m := plainStep(filterOf(n), impl.FormTurned, true, memoryOf(append(slices.Clone(state), 0, 0)), x)
		return y, []float32{m.A, m.B}
	case impl.EffectEcho:
		d := state[0]
		kept := flushedIf(true, plus(x, times(n[0], d)))
		return plus(x, times(n[1], d)), append(slices.Clone(state[1:]), kept)
	case impl.EffectSqueeze:
		y, s := plainDuck(squeezeOf([]float32{n[0], n[1], state[0], n[2], n[3]}), []float32{x}, []float32{x})
		return y[0], []float32{s.Follower.Level}
	case impl.EffectClip:
		return plainClip(x, n[0]), nil
	case impl.EffectLimit:
		y, l := plainLimiter(impl.Limiter{Limit: n[0], Rise: n[1], Gain: state[0], Ahead: state[1:]}, []float32{x})
		return y[0], append([]float32{l.Gain}, l.Ahead...)
	}
	return plainBend(x), nil
}

// plainChain sends one sample after another through all effects.
func plainChain(list []impl.Effect, state [][]float32, x []float32) ([]float32, [][]float32) {
	out, last := slices.Clone(x), slices.Clone(state)
	for i := range out {
		for k, e := range list {
			out[i], last[k] = plainEffect(e, last[k], out[i])
		}
	}
	return out, last
}

func wantChain(t *testing.T, what string, list []impl.Effect, state [][]float32, x, want []float32, last ...[]float32) {
	t.Helper()
	got, next, ok := impl.RunChain(list, state, x)
	wantSamples(t, what, got, ok, want)
	wantState(t, what+", the state", next, ok, last...)
	if !impl.IsState(list, next) {
		t.Errorf("%s: %v is no state", what, next)
	}
}

func wantPlainChain(t *testing.T, what string, list []impl.Effect, state [][]float32, x []float32) {
	t.Helper()
	want, last := plainChain(list, state, x)
	wantChain(t, what, list, state, x, want, last...)
}

// wantOne is for chains of one effect.
func wantOne(t *testing.T, what string, e impl.Effect, state, x, want, last []float32) {
	t.Helper()
	wantChain(t, what, chainOf(e), [][]float32{state}, x, want, last)
}

func TestChapter8EffectsWithoutStatesByHand(t *testing.T) {
	x := []float32{0.5, -2, minus0, 4, tiny, infinity, notANum}
	wantOne(t, "a gain", gainBy(0.5), nil, x, []float32{0.25, -1, minus0, 2, 0, infinity, notANum}, nil)
	wantOne(t, "a negative gain", gainBy(-3), nil, x[:4], []float32{-1.5, 6, 0, -12}, nil)
	wantOne(t, "a gain of 0", gainBy(0), nil, x, []float32{0, minus0, minus0, 0, 0, notANum, notANum}, nil)
	wantOne(t, "gains are not flushed", gainBy(0.5), nil, []float32{0x1p-126, -2 * tiny}, []float32{0x1p-127, -tiny}, nil)
	wantOne(t, "a clip", clipAt(1), nil, x, []float32{0.5, -1, minus0, 1, tiny, 1, notANum}, nil)
	wantOne(t, "a clip at a negative limit", clipAt(-1), nil, x, []float32{-1, 1, -1, -1, -1, -1, notANum}, nil)
	wantOne(t, "a clip at a not-a-number", clipAt(notANum), nil, x, x, nil)
	wantOne(t, "a bend", bend(), nil, x, []float32{0.6875, -1, minus0, 1, 2 * tiny, 1, notANum}, nil)
	for _, e := range chainOf(gainBy(0.5), clipAt(1), bend()) {
		wantOne(t, "no samples", e, nil, nil, nil, nil)
	}
}

func TestChapter8FiltersByHand(t *testing.T) {
	wantOne(t, "a filter", filterWith(1, 2, 4, 0.5, -0.25), []float32{1, 3}, []float32{2}, []float32{3}, []float32{5.5, 8.75})
	wantOne(t, "two samples", filterWith(0.5, 0, 0, -0.5, 0), []float32{0, 0}, []float32{1, 0}, []float32{0.5, 0.25}, []float32{0.125, 0})
	least := float32(0x1p-126)
	wantOne(t, "y is flushed before A1 and A2", filterWith(0.5, 0, 0, -2, -2), []float32{0, 0}, []float32{least}, []float32{0}, []float32{0, 0})
	wantOne(t, "both numbers are flushed", filterWith(0, 1, 2, 0, 0), []float32{0, tiny}, []float32{-0.5 * least}, []float32{0}, []float32{minus0, -least})
	wantOne(t, "the state is used as it is", filterWith(0, 0, 0, -1, 0), []float32{2 * least, tiny}, []float32{0}, []float32{2 * least}, []float32{2 * least, 0})
	wantOne(t, "no samples", filterWith(1, 2, 4, 0.5, -0.25), []float32{tiny, notANum}, nil, nil, []float32{tiny, notANum})
	x := 1 + float32(1)/4096
	square := 1 + float32(1)/2048
	wantOne(t, "products are rounded on their own", filterWith(x, 0, 0, 0, 0), []float32{-square, 0}, []float32{x}, []float32{0}, []float32{0, 0})
}

func TestChapter8EchoesByHand(t *testing.T) {
	wantOne(t, "the example", echoOf(2, 0.5, 1), []float32{0, 0}, []float32{1, 0, 0, 0, 0, 0}, []float32{1, 0, 1, 0, 0.5, 0}, []float32{0.25, 0})
	wantOne(t, "the first sample leaves", echoOf(3, 2, 10), []float32{1, 2, 3}, []float32{4}, []float32{14}, []float32{2, 3, 6})
	wantOne(t, "around the state", echoOf(3, 2, 10), []float32{1, 2, 3}, []float32{4, 5, 6, 7}, []float32{14, 25, 36, 67}, []float32{9, 12, 19})
	wantOne(t, "the length 1", echoOf(1, 0.5, 2), []float32{8}, []float32{0, 0, 1}, []float32{16, 8, 5}, []float32{2})
	wantOne(t, "both zeros", echoOf(1, 1, 1), []float32{minus0}, []float32{minus0, 0, minus0}, []float32{minus0, 0, 0}, []float32{0})
	wantOne(t, "no samples", echoOf(2, 1, 1), []float32{tiny, notANum}, nil, nil, []float32{tiny, notANum})
	least := float32(0x1p-126)
	wantOne(t, "what is kept is flushed", echoOf(1, 0.5, 1), []float32{least}, []float32{0, 0}, []float32{least, 0}, []float32{0})
	wantOne(t, "with its sign", echoOf(1, 0.5, 1), []float32{-least}, []float32{0}, []float32{-least}, []float32{minus0})
	wantOne(t, "samples and results are not flushed", echoOf(1, 0, 0.5), []float32{least}, []float32{0, tiny}, []float32{0.5 * least, tiny}, []float32{0})
	wantOne(t, "the state is used as it is", echoOf(1, 2, 4), []float32{0.5 * least}, []float32{0}, []float32{2 * least}, []float32{least})
	x := 1 + float32(1)/4096
	square := 1 + float32(1)/2048
	wantOne(t, "products are rounded on their own", echoOf(1, x, x), []float32{x}, []float32{-square}, []float32{0}, []float32{0})
	wantOne(t, "infinities", echoOf(1, -1, 0), []float32{infinity}, []float32{infinity, 1}, []float32{notANum, notANum}, []float32{notANum})
}

func TestChapter8SqueezesAndLimitsByHand(t *testing.T) {
	wantOne(t, "a squeeze", squeezeWith(1, 1, 1, 2), []float32{0}, []float32{4, 0.5, -4}, []float32{2.5, 0.5, -2.5}, []float32{4})
	wantOne(t, "Attack and Release", squeezeWith(0.5, 0.25, 1, 2), []float32{0}, []float32{8, 0, 5}, []float32{5, 0, 3.125}, []float32{4})
	wantOne(t, "a level from before", squeezeWith(0, 0.5, 1, 2), []float32{8}, []float32{4, 4}, []float32{over(14, 6), over(12, 5)}, []float32{5})
	wantOne(t, "no samples", squeezeWith(0, 0.5, 1, 2), []float32{tiny}, nil, nil, []float32{tiny})
	wantOne(t, "levels are flushed", squeezeWith(0, 0.5, 1, 2), []float32{-0x1p-126}, []float32{minus0}, []float32{minus0}, []float32{-0x1p-126})
	wantOne(t, "to zeros with signs", squeezeWith(0.5, 0, 1, 2), []float32{-0x1p-126}, []float32{0}, []float32{0}, []float32{minus0})
	wantOne(t, "a limit", limitAt(1, 0.5, 0), []float32{1, 0}, []float32{0.5, 1, 0}, []float32{0, 0.25, 0.5}, []float32{0.5, 0})
	wantOne(t, "no sample ahead", limitAt(0, 0.5, 0.25), []float32{1}, []float32{2, 0.25, -0.25, 0.25}, []float32{0.5, 0.125, -0.1875, 0.25}, []float32{1})
	wantOne(t, "what was ahead", limitAt(2, 1, infinity), []float32{notANum, 4, 3}, []float32{1, 1, 0.5}, []float32{1, 1, 1}, []float32{1, 1, 0.5})
	wantOne(t, "no samples", limitAt(2, 1, 0.5), []float32{7, 8, notANum}, nil, nil, []float32{7, 8, notANum})
	wantOne(t, "a least limit", limitAt(0, tiny, 0), []float32{1}, []float32{1, -1}, []float32{tiny, -tiny}, []float32{tiny})
}

func TestChapter8EffectsInTheirOrder(t *testing.T) {
	none := [][]float32{nil, nil}
	wantChain(t, "a gain, and then a clip", chainOf(gainBy(2), clipAt(1)), none, []float32{0.75, -1}, []float32{1, -1}, nil, nil)
	wantChain(t, "a clip, and then a gain", chainOf(clipAt(1), gainBy(2)), none, []float32{0.75, -1}, []float32{1.5, -2}, nil, nil)
	list := chainOf(echoOf(1, 0, 1), gainBy(2), echoOf(2, 0, 1))
	wantChain(t, "two echoes", list, [][]float32{{0}, nil, {0, 0}}, []float32{1, 0, 0, 0, 0}, []float32{2, 2, 2, 2, 0}, []float32{0}, nil, []float32{0, 0})
	list = chainOf(limitAt(1, 0.5, 0), bend(), clipAt(0.25))
	wantChain(t, "three kinds", list, [][]float32{{1, 0}, nil, nil}, []float32{1, 1, 1}, []float32{0, 0.25, 0.25}, []float32{0.5, 1}, nil, nil)
	wantChain(t, "eight gains", slices.Repeat(chainOf(gainBy(2)), 8), make([][]float32, 8), []float32{1, 3}, []float32{256, 768}, make([][]float32, 8)...)
}

func TestChapter8ChainsWithoutEffects(t *testing.T) {
	for _, n := range lengths() {
		x := samplesOfStyle(3, 1100, n)
		got, state, ok := impl.RunChain(nil, nil, x)
		if !ok || !sameBits(got, x) || len(state) != 0 {
			t.Errorf("no effects: %v %v %v for %v", got, state, ok, x)
		}
	}
}

func TestChapter8EffectsAreThoseOfTheDocument(t *testing.T) {
	for style := range styles {
		for i, n := range lengths() {
			for _, kind := range effectKinds() {
				for k := range lengthsOfKind(kind) {
					for more := range 4 {
						seed := 1200 + 100*i + 10*k + more
						list := chainOf(effectOfKind(style, seed, kind))
						wantPlainChain(t, "an effect", list, stateOfStyle(style, seed, list), samplesOfStyle(style, seed+1, n))
					}
				}
			}
		}
	}
}

func TestChapter8ChainsAreThoseOfTheDocument(t *testing.T) {
	for style := range styles {
		for i, n := range append(lengths(), 31, 32, 33, 63, 64, 65, 127, 128, 129, 191, 192, 193) {
			for count := range 9 {
				seed := 2500 + 1000*i + 20*count
				list := chainOfStyle(style, seed, count)
				wantPlainChain(t, "a chain", list, stateOfStyle(style, seed, list), samplesOfStyle(style, seed+1, n))
				state, _ := impl.NewState(list)
				wantPlainChain(t, "a new state", list, state, samplesOfStyle(style, seed+2, n))
			}
		}
	}
}

func TestChapter8LongestEffects(t *testing.T) {
	for style := range styles {
		for n := int64(1); n <= 32; n++ {
			list := chainOf(echoOf(n, 0.75, -0.5), limitAt(n, 0.5, 0.125), echoOf(33-n, -0.5, 0.75), limitAt(32-n, 2, 0.5))
			wantPlainChain(t, "long effects", list, stateOfStyle(style, 2600+int(n), list), samplesOfStyle(style, 2700+int(n), 256))
		}
	}
}

func TestChapter8TooManySamples(t *testing.T) {
	for _, n := range []int{257, 258, 1000} {
		for count := range 8 {
			list := oneOfEach()[:count]
			state, _ := impl.NewState(list)
			out, next, ok := impl.RunChain(list, state, make([]float32, n))
			wantNoList(t, "RunChain", out, ok)
			wantNoList(t, "RunChain", next, ok)
			wantNotBoth(t, "RunBoth", list, list, state, state, make([]float32, n))
			wantNotBoth(t, "RunBoth", list, nil, state, nil, make([]float32, n))
			wantNotBoth(t, "RunBoth", nil, list, nil, state, make([]float32, n))
		}
	}
}

func TestChapter8BothChainsByHand(t *testing.T) {
	a, b := chainOf(gainBy(0.5)), chainOf(echoOf(1, 0, 2), gainBy(-1))
	sums, first, second, ok := impl.RunBoth(a, b, [][]float32{nil}, [][]float32{{3}, nil}, []float32{4, 8})
	wantSamples(t, "the sums", sums, ok, []float32{-8, -12})
	wantState(t, "the first state", first, ok, nil)
	wantState(t, "the second state", second, ok, []float32{8}, nil)
	sums, first, second, ok = impl.RunBoth(nil, nil, nil, nil, []float32{1, minus0, notANum})
	wantSamples(t, "no effects", sums, ok, []float32{2, minus0, notANum})
	wantState(t, "no effects", first, ok)
	wantState(t, "no effects", second, ok)
}

func TestChapter8BothChainsAreSums(t *testing.T) {
	for style := range styles {
		for i, n := range lengths() {
			for count := range 9 {
				seed := 2800 + 100*i + 10*count
				a, b := chainOfStyle(style, seed, count), chainOfStyle(style, seed+10, 8-count)
				before, after := stateOfStyle(style, seed, a), stateOfStyle(style, seed+1, b)
				x := samplesOfStyle(style, seed+2, n)
				want, one := plainChain(a, before, x)
				others, other := plainChain(b, after, x)
				for k, y := range others {
					want[k] = plus(want[k], y)
				}
				sums, first, second, ok := impl.RunBoth(a, b, before, after, x)
				wantSamples(t, "sums", sums, ok, want)
				wantState(t, "the first state", first, ok, one...)
				wantState(t, "the second state", second, ok, other...)
			}
		}
	}
}

func TestChapter8Impulses(t *testing.T) {
	out, ok := impl.ImpulseOfChain(chainOf(echoOf(2, 0.5, 1)), 6)
	wantSamples(t, "the example", out, ok, []float32{1, 0, 1, 0, 0.5, 0})
	out, ok = impl.ImpulseOfChain(chainOf(filterWith(0.5, 0, 0, -0.5, 0)), 3)
	wantSamples(t, "a filter", out, ok, []float32{0.5, 0.25, 0.125})
	out, ok = impl.ImpulseOfChain(chainOf(gainBy(-2)), 3)
	wantSamples(t, "a gain", out, ok, []float32{-2, minus0, minus0})
	for count := range 257 {
		for style := range styles {
			list := chainOfStyle(style, 3200+10*count, count%9)
			state, _ := impl.NewState(list)
			x := make([]float32, count)
			if count > 0 {
				x[0] = 1
			}
			want, _ := plainChain(list, state, x)
			out, ok := impl.ImpulseOfChain(list, int64(count))
			wantSamples(t, "an impulse", out, ok, want)
		}
	}
}

func TestChapter8NoImpulses(t *testing.T) {
	for _, count := range []int64{-1, -256, 257, 258, 1 << 32, 1<<32 + 1, math.MinInt64, math.MaxInt64} {
		for n := range 8 {
			out, ok := impl.ImpulseOfChain(oneOfEach()[:n], count)
			wantNoList(t, "a wrong count", out, ok)
		}
	}
}
