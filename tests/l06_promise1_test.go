package tests

import (
	"math"
	"reflect"
	"slices"
	"strings"
	"testing"

	"loop.example/g01170/impl"
)

func foldOutcome(sums, last []float32, ok bool) []any { return plain(sums, last, ok) }

func shapedOutcome(codes []int64, carried float32, ok bool) []any { return plain(codes, carried, ok) }

func anyReadKinds() []int64 { return append(readKinds(), wrongReadKinds()...) }

func anyBits() []int64 { return append(append(wrongBits(), anyIntegers()...), 2, 3, 8, 15, 16) }

func anyFactors() []int64 { return append(append(wrongFactors(), anyIntegers()...), factors()...) }

func anyWidePlaces() []float64 {
	return append(wrongPlaces(3), 0, minus0Wide, 0.25, 0.5, placeBefore(0.5), 1, placeBefore(1), 2, 100.3, 254.9, 255)
}

func TestPromise1Places(t *testing.T) {
	steps := append(wrongSteps(), 0, minus0Wide, 1, -1, 0.3, math.MaxFloat64, -math.MaxFloat64, math.SmallestNonzeroFloat64)
	for _, list := range anyLists() {
		x := guardNumbers(list)
		for _, kind := range anyReadKinds() {
			for _, place := range anyWidePlaces() {
				wantTwice(t, "ReadAt", func() []any { return outcome(impl.ReadAt(kind, x.list, place)) })
				for _, step := range steps {
					for _, count := range []int64{-1, 0, 2, 256, 257} {
						wantTwice(t, "PlayAt", func() []any { return outcome(impl.PlayAt(kind, x.list, place, step, count)) })
					}
				}
			}
		}
		for _, count := range anyCounts() {
			wantTwice(t, "PlayAt", func() []any { return outcome(impl.PlayAt(impl.ReadCurve, x.list, 0, 0.01, count)) })
		}
		if !x.isUntouched() {
			t.Errorf("%d samples were modified", len(list))
		}
	}
}

func TestPromise1Folds(t *testing.T) {
	for _, count := range []int{0, 1, 2, 31, 32, 33, 1000} {
		taps := guardNumbers(samplesOfStyle(1, 1600+count, count))
		for _, first := range append(anyLists(), mixedSamples(1, 31), mixedSamples(2, max(0, count-1))) {
			last := guardNumbers(first)
			for _, second := range anyLists() {
				x := guardNumbers(second)
				wantTwice(t, "FoldTaps", func() []any { return foldOutcome(impl.FoldTaps(taps.list, last.list, x.list)) })
				if !taps.isUntouched() || !last.isUntouched() || !x.isUntouched() {
					t.Errorf("%d taps, %d last samples or %d samples were modified", count, len(first), len(second))
				}
			}
		}
	}
}

func TestPromise1Factors(t *testing.T) {
	for _, list := range anyLists() {
		x := guardNumbers(list)
		for _, factor := range anyFactors() {
			wantTwice(t, "SpreadBy", func() []any { return outcome(impl.SpreadBy(factor, x.list)) })
			for _, first := range append(anyIntegers(), 3, 7, 8, factor-1, factor) {
				wantTwice(t, "PickBy", func() []any { return outcome(impl.PickBy(factor, first, x.list)) })
			}
			for _, count := range []int{0, 1, 5, 32, 33} {
				taps := guardNumbers(samplesOfStyle(1, 1610+count, count))
				wantTwice(t, "RaiseBy and LowerBy", func() []any {
					return slices.Concat(outcome(impl.RaiseBy(factor, taps.list, x.list)), outcome(impl.LowerBy(factor, taps.list, x.list)))
				})
				if !taps.isUntouched() {
					t.Errorf("%d taps were modified", count)
				}
			}
		}
		if !x.isUntouched() {
			t.Errorf("%d samples were modified", len(list))
		}
	}
}

// anyNoises are right and wrong ones for so many samples.
func anyNoises(count int) [][]int64 {
	right := noiseOf(1620, count)
	return [][]int64{nil, {}, right, append(slices.Clone(right), 0), append([]int64{256}, right...)[:2*count], anyIntegers(), make([]int64, 100000)}
}

func TestPromise1CodesOfSamples(t *testing.T) {
	for _, list := range anyLists() {
		x := guardNumbers(list)
		for _, bits := range anyBits() {
			wantTwice(t, "CodesOf", func() []any { return outcome(impl.CodesOf(bits, x.list)) })
			for _, numbers := range anyNoises(len(list)) {
				noise := guardValues(numbers)
				wantTwice(t, "CodesWith", func() []any { return outcome(impl.CodesWith(bits, x.list, noise.list)) })
				if !noise.isUntouched() {
					t.Errorf("%d numbers of noise were modified", len(numbers))
				}
			}
			for _, share := range []float32{0, 1, -0.5, infinity, notANum, largest, tiny} {
				wantTwice(t, "CodesShaped", func() []any { return shapedOutcome(impl.CodesShaped(bits, x.list, share)) })
			}
		}
		if !x.isUntouched() {
			t.Errorf("%d samples were modified", len(list))
		}
	}
}

func TestPromise1SamplesOfCodes(t *testing.T) {
	for _, list := range [][]int64{
		nil, {}, {0}, {-1, 1}, {1, 2, -3}, {127, -128}, {32767, -32768}, {32768}, anyIntegers(), make([]int64, 256), make([]int64, 257), make([]int64, 100000),
	} {
		codes := guardValues(list)
		for _, bits := range anyBits() {
			wantTwice(t, "functions of codes", func() []any {
				return slices.Concat(outcome(impl.SamplesOf(bits, codes.list)), outcome(impl.CountClipped(bits, codes.list)), outcome(impl.BytesOfCodes(codes.list)))
			})
		}
		if !codes.isUntouched() {
			t.Errorf("%d codes were modified", len(list))
		}
	}
	for _, s := range append(anyTexts(), "ab", "abc", "\xff\x7f\x00\x80", strings.Repeat("x", 512), strings.Repeat("x", 513), strings.Repeat("x", 514)) {
		wantTwice(t, "CodesOfBytes", func() []any { return outcome(impl.CodesOfBytes(s)) })
	}
}

func TestPromise1RatesShareNoMemory(t *testing.T) {
	for _, count := range []int{0, 1, 8, 32, 256} {
		for _, n := range []int{1, 2, 32} {
			x, taps, before := guardNumbers(mixedSamples(count, count)), guardNumbers(mixedSamples(n, n)), guardNumbers(mixedSamples(n+1, n-1))
			short := x.list[:min(count, 32)]
			sums, last, _ := impl.FoldTaps(taps.list, before.list, x.list)
			again, end, _ := impl.FoldTaps(taps.list, before.list, x.list)
			none, kept, _ := impl.FoldTaps(taps.list, before.list, nil)
			spread, _ := impl.SpreadBy(1, x.list)
			wide, _ := impl.SpreadBy(8, short)
			picked, _ := impl.PickBy(1, 0, x.list)
			few, _ := impl.PickBy(2, 1, x.list)
			raised, _ := impl.RaiseBy(1, []float32{1}, x.list)
			lowered, _ := impl.LowerBy(1, []float32{1}, x.list)
			played, _ := impl.PlayAt(impl.ReadNear, x.list, 0, 1, int64(count))
			samples, _ := impl.SamplesOf(8, make([]int64, count))
			wantOwnMemory(t, "rates", sums, last, again, end, none, kept, spread, wide, picked, few, raised, lowered, played, samples)
			if !x.isUntouched() || !taps.isUntouched() || !before.isUntouched() {
				t.Errorf("a result of %d samples and %d taps shares memory with an argument", count, n)
			}
		}
	}
}

func TestPromise1CodesShareNoMemory(t *testing.T) {
	x, noise := guardNumbers(samplesForCodes(0, 1630, 256)), guardValues(noiseOf(1631, 256))
	calls := []func() []int64{
		func() []int64 { codes, _ := impl.CodesOf(16, x.list); return codes },
		func() []int64 { codes, _ := impl.CodesWith(16, x.list, noise.list); return codes },
		func() []int64 { codes, _, _ := impl.CodesShaped(16, x.list, 1); return codes },
		func() []int64 { codes, _ := impl.CodesOfBytes(strings.Repeat("abcd", 128)); return codes },
	}
	for i, call := range calls {
		first, second := call(), call()
		want := slices.Clone(second)
		clear(first[:cap(first)])
		if len(want) != 256 || !slices.Equal(second, want) || !slices.Equal(call(), want) || !x.isUntouched() || !noise.isUntouched() {
			t.Errorf("the codes of call %d share memory", i)
		}
	}
}

func TestPromise1RatesOfNilAndEmptyLists(t *testing.T) {
	none, empty := []float32{}, []int64{}
	for i, pair := range [][2][]any{
		{outcome(impl.PlayAt(0, nil, 5, 1, 0)), outcome(impl.PlayAt(0, none, 5, 1, 0))},
		{foldOutcome(impl.FoldTaps([]float32{2}, nil, none)), foldOutcome(impl.FoldTaps([]float32{2}, none, nil))},
		{outcome(impl.SpreadBy(2, nil)), outcome(impl.SpreadBy(2, none))},
		{outcome(impl.PickBy(2, 1, nil)), outcome(impl.PickBy(2, 1, none))},
		{outcome(impl.RaiseBy(2, []float32{2}, nil)), outcome(impl.RaiseBy(2, []float32{2}, none))},
		{outcome(impl.LowerBy(2, []float32{2}, nil)), outcome(impl.LowerBy(2, []float32{2}, none))},
		{outcome(impl.CodesOf(8, nil)), outcome(impl.CodesOf(8, none))},
		{outcome(impl.CodesWith(8, nil, empty)), outcome(impl.CodesWith(8, none, nil))},
		{shapedOutcome(impl.CodesShaped(8, nil, 1)), shapedOutcome(impl.CodesShaped(8, none, 1))},
		{outcome(impl.SamplesOf(8, nil)), outcome(impl.SamplesOf(8, empty))},
		{outcome(impl.BytesOfCodes(nil)), outcome(impl.BytesOfCodes(empty))},
		{outcome(impl.CountClipped(8, nil)), outcome(impl.CountClipped(8, empty))},
	} {
		if !reflect.DeepEqual(pair[0], pair[1]) || pair[0][len(pair[0])-1] != true {
			t.Errorf("pair %d: %v and %v", i, pair[0], pair[1])
		}
	}
	for i, pair := range [][2][]any{
		{outcome(impl.ReadAt(0, nil, 0)), outcome(impl.ReadAt(0, none, 0))},
		{foldOutcome(impl.FoldTaps(nil, nil, none)), foldOutcome(impl.FoldTaps(none, none, nil))},
	} {
		if !reflect.DeepEqual(pair[0], pair[1]) {
			t.Errorf("wrong pair %d: %v and %v", i, pair[0], pair[1])
		}
	}
}
