package tests

import (
	"math"
	"reflect"
	"slices"
	"strings"
	"testing"

	"loop.example/g01170/impl"
)

// guarded is a slice with capacity behind its end, whose memory is looked at after each call.
type guarded[T any] struct {
	list   []T
	before []T
	same   func(a, b []T) bool
}

func guard[T any](list []T, filler T, same func(a, b []T) bool) guarded[T] {
	memory := append(slices.Clone(list), filler, filler, filler, filler, filler, filler, filler, filler)
	return guarded[T]{memory[:len(list)], slices.Clone(memory), same}
}

func (g guarded[T]) isUntouched() bool { return g.same(g.list[:cap(g.list)][:len(g.before)], g.before) }

func sameBits(a, b []float32) bool {
	return slices.EqualFunc(a, b, func(x, y float32) bool { return math.Float32bits(x) == math.Float32bits(y) })
}

func guardNumbers(list []float32) guarded[float32] { return guard(list, -77, sameBits) }

func guardValues(list []int64) guarded[int64] { return guard(list, -77, slices.Equal[[]int64]) }

func anyLists() [][]float32 {
	return [][]float32{
		nil, {}, {1}, {notANum}, edgeNumbers(), mixedSamples(1, 3), mixedSamples(2, 8), mixedSamples(3, 9),
		mixedSamples(4, 255), mixedSamples(5, 256), mixedSamples(6, 257), repeated(infinity, 600),
	}
}

func anyIntegers() []int64 {
	list := []int64{0, 1, 2, 21, 2000, 2001, 65002, 65003, 4294967295, 4294967296, impl.MaxValue, impl.MaxValue + 1, math.MaxInt64}
	for _, n := range slices.Clone(list) {
		list = append(list, -n)
	}
	return append(list, math.MinInt64)
}

func anyTexts() []string {
	return []string{
		"", "none", "bus", "3f800000", "3f800000,c0000000", "7fc00001", "1,2,-3", "-0", "12", "\xff\x00", "é", strings.Repeat(",", 5000),
		strings.Repeat("1,", 5000), strings.Repeat("9", 5000), strings.Repeat("3f800000,", 5000), strings.Repeat("\x00", 100000),
	}
}

// plain turns results into values by which two calls are compared.
func plain(results ...any) []any {
	for i, r := range results {
		switch v := r.(type) {
		case float32:
			results[i] = oneBits(v)
		case []float32:
			results[i] = allBits(v)
		case []int64:
			results[i] = append([]int64{}, v...)
		}
	}
	return results
}

func wantTwice(t *testing.T, what string, call func() []any) {
	t.Helper()
	first := call()
	if second := call(); !reflect.DeepEqual(first, second) {
		t.Errorf("%s: %v, and then %v", what, first, second)
	}
}

func outcome[A any](a A, ok bool) []any { return plain(a, ok) }

func TestPromise1FunctionsOfNumbers(t *testing.T) {
	numbers := append(edgeNumbers(), mixedSamples(7, 50)...)
	for i := range 200 {
		numbers = append(numbers, rawNumber(mixedBits(8, i)))
	}
	for _, x := range numbers {
		wantTwice(t, "functions of a number", func() []any {
			return plain(impl.SameNumber(x, 1), impl.IsFinite(x), impl.BitsOf(x), impl.NextUp(x), impl.NextDown(x),
				impl.FlushNumber(x), impl.IsSubnormal(x), impl.ExpNumber(x), impl.LogNumber(x), impl.RootNumber(x),
				impl.TanhNumber(x), impl.SineTurns(x), impl.NarrowNumber(float64(x)), impl.NarrowNumber(float64(x)*1e300))
		})
	}
}

func TestPromise1FunctionsOfIntegersAndTexts(t *testing.T) {
	for _, n := range anyIntegers() {
		wantTwice(t, "functions of an integer", func() []any {
			return slices.Concat(outcome(impl.FromBits(n)), outcome(impl.GainOf(n)), outcome(impl.CheckOf(n, "text")), plain(impl.Decimal(n)))
		})
	}
	for _, s := range anyTexts() {
		wantTwice(t, "functions of a text", func() []any {
			return slices.Concat(outcome(impl.ReadNumbers(s)), outcome(impl.ReadDecimal(s)), outcome(impl.ReadList(s)),
				outcome(impl.CheckOf(7, s)), plain(impl.IsName(s)))
		})
	}
}

func TestPromise1FunctionsOfLists(t *testing.T) {
	for _, first := range anyLists() {
		a := guardNumbers(first)
		wantTwice(t, "functions of a list", func() []any {
			return slices.Concat(outcome(impl.SumNumbers(a.list)), outcome(impl.SumPairs(a.list)), outcome(impl.PeakOf(a.list)),
				outcome(impl.ScaleSamples(a.list, 3)), outcome(impl.NumbersText(a.list)))
		})
		for _, second := range anyLists() {
			b := guardNumbers(second)
			wantTwice(t, "functions of two lists", func() []any {
				return slices.Concat(outcome(impl.DotNumbers(a.list, b.list)), outcome(impl.DotWide(a.list, b.list)),
					outcome(impl.MixSamples(a.list, b.list)))
			})
			if !a.isUntouched() || !b.isUntouched() {
				t.Errorf("an argument of %d or %d numbers was modified", len(first), len(second))
			}
		}
	}
	for _, list := range [][]int64{nil, {}, {1, -2}, anyIntegers(), make([]int64, 64), make([]int64, 65)} {
		g := guardValues(list)
		wantTwice(t, "ListText", func() []any { return outcome(impl.ListText(g.list)) })
		if !g.isUntouched() {
			t.Errorf("an argument of %d integers was modified", len(list))
		}
	}
}

func TestPromise1NilAndEmptyListsAreTheSame(t *testing.T) {
	empty := []float32{}
	for i, pair := range [][2][]any{
		{outcome(impl.SumNumbers(nil)), outcome(impl.SumNumbers(empty))},
		{outcome(impl.SumPairs(nil)), outcome(impl.SumPairs(empty))},
		{outcome(impl.PeakOf(nil)), outcome(impl.PeakOf(empty))},
		{outcome(impl.DotNumbers(nil, empty)), outcome(impl.DotNumbers(empty, nil))},
		{outcome(impl.DotWide(nil, empty)), outcome(impl.DotWide(empty, nil))},
		{outcome(impl.MixSamples(nil, empty)), outcome(impl.MixSamples(empty, nil))},
		{outcome(impl.ScaleSamples(nil, 2)), outcome(impl.ScaleSamples(empty, 2))},
		{outcome(impl.NumbersText(nil)), outcome(impl.NumbersText(empty))},
		{outcome(impl.ListText(nil)), outcome(impl.ListText([]int64{}))},
	} {
		if !reflect.DeepEqual(pair[0], pair[1]) || pair[0][len(pair[0])-1] != true {
			t.Errorf("pair %d: %v and %v", i, pair[0], pair[1])
		}
	}
}

// overwrite writes into all memory of a list, also behind its end.
func overwrite(list []float32) {
	list = list[:cap(list)]
	for i := range list {
		list[i] = 12345
	}
}

func TestPromise1ResultsShareNoMemory(t *testing.T) {
	for _, n := range []int{1, 7, 8, 9, 256} {
		a, b := guardNumbers(mixedSamples(n, n)), guardNumbers(mixedSamples(n+1, n))
		scaled, _ := impl.ScaleSamples(a.list, 1)
		again, _ := impl.ScaleSamples(a.list, 1)
		mixed, _ := impl.MixSamples(a.list, b.list)
		overwrite(scaled)
		overwrite(mixed)
		if !a.isUntouched() || !b.isUntouched() || !sameBits(again, a.list) {
			t.Errorf("a result of %d samples shares memory", n)
		}
	}
}
