package tests

import (
	"reflect"
	"slices"
	"testing"

	"loop.example/g01170/impl"
)

func followOutcome(levels []float32, f impl.Follower, ok bool) []any {
	return plain(levels, followerNumbers(f), ok)
}

func squeezeOutcome(samples []float32, s impl.Squeeze, ok bool) []any {
	return plain(samples, squeezeNumbers(s), ok)
}

func limiterOutcome(l impl.Limiter, ok bool) []any { return plain(limiterNumbers(l), ok) }

func limitedOutcome(outputs []float32, l impl.Limiter, ok bool) []any {
	return plain(outputs, limiterNumbers(l), ok)
}

// anyFive are lists of five numbers, of which several can be edges.
func anyFive() [][]float32 {
	list := [][]float32{
		make([]float32, 5), repeated(notANum, 5), repeated(infinity, 5), repeated(-infinity, 5), repeated(tiny, 5),
		{1, 1, minus0, 0, 0}, {notANum, 0.5, -1, -infinity, infinity}, {infinity, notANum, largest, notANum, minus0},
	}
	for i := range 12 {
		list = append(list, samplesOfStyle(i%styles, 9000+i, 5))
	}
	return list
}

func TestPromise1FunctionsOfLevels(t *testing.T) {
	for _, n := range anyFive() {
		s := squeezeOf(n)
		wantTwice(t, "functions of numbers", func() []any { return plain(impl.GainFor(n[0], n[1], n[2]), impl.BendSample(n[3])) })
		for _, first := range anyLists() {
			x := guardNumbers(first)
			wantTwice(t, "functions of samples", func() []any {
				return slices.Concat(followOutcome(impl.FollowLevel(s.Follower, x.list)), squeezeOutcome(impl.RunSqueeze(s, x.list)),
					outcome(impl.ClipSamples(x.list, n[0])), outcome(impl.RootMean(x.list)), outcome(impl.FadeSamples(x.list, n[1], n[2])))
			})
			for _, second := range anyLists() {
				side := guardNumbers(second)
				wantTwice(t, "DuckSamples", func() []any { return squeezeOutcome(impl.DuckSamples(s, x.list, side.list)) })
				if !x.isUntouched() || !side.isUntouched() {
					t.Errorf("%d samples or a side of %d were modified", len(first), len(second))
				}
			}
		}
	}
	for _, x := range edgeNumbers() {
		wantTwice(t, "BendSample", func() []any { return plain(impl.BendSample(x)) })
	}
}

func TestPromise1Gates(t *testing.T) {
	counts := append(anyIntegers(), 9999, 10000, 10001)
	for _, list := range anyLists() {
		x := guardNumbers(list)
		for _, threshold := range []float32{0, 1, -infinity, notANum} {
			for _, hold := range counts {
				for _, held := range counts {
					wantTwice(t, "RunGate", func() []any {
						samples, last, ok := impl.RunGate(x.list, threshold, hold, held)
						return plain(samples, last, ok)
					})
				}
			}
		}
		if !x.isUntouched() {
			t.Errorf("%d samples were modified", len(list))
		}
	}
}

func TestPromise1Limiters(t *testing.T) {
	for _, first := range append(anyLists(), mixedSamples(1, 64), mixedSamples(2, 65), samplesOfStyle(1, 9100, 64)) {
		ahead := guardNumbers(first)
		for _, second := range anyLists() {
			x := guardNumbers(second)
			for _, n := range anyFive() {
				for _, limit := range []float32{n[0], 0.5} {
					l := impl.Limiter{Limit: limit, Rise: n[1], Gain: n[2], Ahead: ahead.list}
					wantTwice(t, "RunLimiter", func() []any { return limitedOutcome(impl.RunLimiter(l, x.list)) })
				}
			}
			if !ahead.isUntouched() || !x.isUntouched() {
				t.Errorf("%d samples ahead or %d samples were modified", len(first), len(second))
			}
		}
	}
	for _, limit := range edgeNumbers() {
		for _, ahead := range anyLengths() {
			wantTwice(t, "NewLimiter", func() []any { return limiterOutcome(impl.NewLimiter(limit, -limit, ahead)) })
		}
	}
}

func TestPromise1DynamicsShareNoMemory(t *testing.T) {
	for _, ahead := range []int{0, 1, 2, 63, 64} {
		for _, count := range []int{0, 1, 8, 64, 256} {
			before, x := guardNumbers(mixedSamples(ahead, ahead)), guardNumbers(mixedSamples(count, count))
			l := impl.Limiter{Limit: 1, Rise: 0.5, Gain: 1, Ahead: before.list}
			outputs, next, _ := impl.RunLimiter(l, x.list)
			again, end, _ := impl.RunLimiter(next, x.list)
			fresh, _ := impl.NewLimiter(1, 0, int64(ahead))
			other, _ := impl.NewLimiter(1, 0, int64(ahead))
			levels, _, _ := impl.FollowLevel(impl.Follower{Attack: 1, Release: 1}, x.list)
			squeezed, _, _ := impl.RunSqueeze(impl.Squeeze{Threshold: 1}, x.list)
			ducked, _, _ := impl.DuckSamples(impl.Squeeze{Threshold: 1}, x.list, x.list)
			gated, _, _ := impl.RunGate(x.list, 0, 0, 0)
			clipped, _ := impl.ClipSamples(x.list, infinity)
			faded, _ := impl.FadeSamples(x.list, 1, 1)
			wantOwnMemory(t, "dynamics", outputs, next.Ahead, again, end.Ahead, fresh.Ahead, other.Ahead, levels, squeezed, ducked, gated, clipped, faded)
			if !before.isUntouched() || !x.isUntouched() {
				t.Errorf("a result of %d samples ahead and %d samples shares memory with an argument", ahead, count)
			}
		}
	}
}

func TestPromise1DynamicsOfNilAndEmptyLists(t *testing.T) {
	none := []float32{}
	f, s := followerOf([]float32{0.5, 0.25, 3}), squeezeOf([]float32{0.5, 0.25, 3, 1, 2})
	l, m := impl.Limiter{Limit: 1, Gain: 0.5}, impl.Limiter{Limit: 1, Gain: 0.5, Ahead: none}
	gated, held, ok := impl.RunGate(nil, 1, 2, 1)
	also, last, too := impl.RunGate(none, 1, 2, 1)
	for i, pair := range [][2][]any{
		{followOutcome(impl.FollowLevel(f, nil)), followOutcome(impl.FollowLevel(f, none))},
		{squeezeOutcome(impl.RunSqueeze(s, nil)), squeezeOutcome(impl.RunSqueeze(s, none))},
		{squeezeOutcome(impl.DuckSamples(s, nil, none)), squeezeOutcome(impl.DuckSamples(s, none, nil))},
		{plain(gated, held, ok), plain(also, last, too)},
		{limitedOutcome(impl.RunLimiter(l, nil)), limitedOutcome(impl.RunLimiter(m, none))},
		{limitedOutcome(impl.RunLimiter(l, []float32{2, 1})), limitedOutcome(impl.RunLimiter(m, []float32{2, 1}))},
		{outcome(impl.ClipSamples(nil, 1)), outcome(impl.ClipSamples(none, 1))},
		{outcome(impl.FadeSamples(nil, 0, 1)), outcome(impl.FadeSamples(none, 0, 1))},
	} {
		if !reflect.DeepEqual(pair[0], pair[1]) || pair[0][len(pair[0])-1] != true {
			t.Errorf("pair %d: %v and %v", i, pair[0], pair[1])
		}
	}
}
