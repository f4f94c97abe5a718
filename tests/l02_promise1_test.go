package tests

import (
	"reflect"
	"slices"
	"testing"

	"loop.example/g01170/impl"
)

func filterBits(f impl.Filter) [5]uint32 {
	return [5]uint32{oneBits(f.B0), oneBits(f.B1), oneBits(f.B2), oneBits(f.A1), oneBits(f.A2)}
}

func anyFilters() []impl.Filter {
	list := []impl.Filter{{}, ringing(), {B0: notANum, A1: 0.5}, {A1: infinity, A2: -infinity}, {B0: largest, A1: -2, A2: 1}, {B0: tiny, A1: tiny}}
	for i := range 10 {
		list = append(list, filterOf([]float32{
			rawNumber(mixedBits(i, 1)), rawNumber(mixedBits(i, 2)), rawNumber(mixedBits(i, 3)), rawNumber(mixedBits(i, 4)), rawNumber(mixedBits(i, 5)),
		}))
	}
	return list
}

func anyMemories() []impl.Memory {
	return []impl.Memory{{}, {A: 1, B: 2, C: 3, D: 4}, {A: notANum}, {B: infinity, C: -infinity}, {A: tiny, B: -tiny, C: minus0, D: largest}}
}

func anyForms() []int64 { return append(forms(), wrongForms()...) }

func memoriesBits(list []impl.Memory) [][4]uint32 {
	bits := make([][4]uint32, len(list))
	for i, m := range list {
		bits[i] = memoryBits(m)
	}
	return bits
}

func stepOutcome(y float32, m impl.Memory, ok bool) []any { return plain(y, memoryBits(m), ok) }

func runOutcome(out []float32, m impl.Memory, ok bool) []any { return plain(out, memoryBits(m), ok) }

func runsOutcome(out []float32, list []impl.Memory, ok bool) []any {
	return plain(out, memoriesBits(list), ok)
}

func TestPromise1FunctionsOfFilters(t *testing.T) {
	for _, f := range anyFilters() {
		for _, x := range append(edgeNumbers(), mixedSamples(3, 10)...) {
			wantTwice(t, "functions of a filter and a number", func() []any {
				return plain(impl.IsStable(f), impl.LevelOfFilter(f), filterBits(impl.SmoothFilter(x)), filterBits(impl.ScaleFilter(f, x)))
			})
		}
		for _, form := range anyForms() {
			for _, count := range anyIntegers() {
				wantTwice(t, "ImpulseOf", func() []any { return outcome(impl.ImpulseOf(f, form, count)) })
			}
			for _, m := range anyMemories() {
				for _, most := range []int64{-1, 0, 100, 10001} {
					wantTwice(t, "functions of a memory", func() []any {
						return slices.Concat(outcome(impl.RestAfter(f, form, m, most)), stepOutcome(impl.FilterStep(f, form, most == 0, m, tiny)),
							plain(impl.SameMemory(m, impl.Memory{})))
					})
				}
			}
		}
	}
}

func TestPromise1RestAlwaysReturns(t *testing.T) {
	for _, f := range anyFilters() {
		for _, form := range anyForms() {
			for _, m := range anyMemories() {
				wantTwice(t, "RestAfter", func() []any { return outcome(impl.RestAfter(f, form, m, 10000)) })
			}
		}
	}
}

func guardFilters(list []impl.Filter) guarded[impl.Filter] {
	return guard(list, impl.Filter{B0: -77}, func(a, b []impl.Filter) bool {
		return slices.EqualFunc(a, b, func(f, g impl.Filter) bool { return filterBits(f) == filterBits(g) })
	})
}

func guardMemories(list []impl.Memory) guarded[impl.Memory] {
	return guard(list, impl.Memory{A: -77}, func(a, b []impl.Memory) bool {
		return slices.EqualFunc(a, b, func(m, n impl.Memory) bool { return memoryBits(m) == memoryBits(n) })
	})
}

func TestPromise1RunsModifyNothing(t *testing.T) {
	for _, first := range anyLists() {
		samples := guardNumbers(first)
		for count := range impl.MaxFilters + 2 {
			list, states := severalFilters(count, count)
			filters, memories := guardFilters(list), guardMemories(states)
			for _, form := range anyForms() {
				wantTwice(t, "runs", func() []any {
					return slices.Concat(runsOutcome(impl.RunFilters(filters.list, form, true, memories.list, samples.list)),
						runsOutcome(impl.RunFilters(filters.list, form, false, memories.list[:count/2], samples.list)),
						runOutcome(impl.RunFilter(ringing(), form, true, impl.Memory{A: 1}, samples.list)),
						outcome(impl.FilterBothWays(ringing(), samples.list)))
				})
			}
			if !samples.isUntouched() || !filters.isUntouched() || !memories.isUntouched() {
				t.Errorf("an argument with %d samples or %d filters was modified", len(first), count)
			}
		}
	}
}

func TestPromise1RunsShareNoMemory(t *testing.T) {
	for _, n := range []int{1, 8, 256} {
		for _, count := range []int{0, 1, 6} {
			list, states := severalFilters(n, count)
			samples, filters, memories := guardNumbers(mixedSamples(n, n)), guardFilters(list), guardMemories(states)
			out, last, _ := impl.RunFilters(filters.list, 0, false, memories.list, samples.list)
			kept := memoriesBits(last)
			overwrite(out)
			if !reflect.DeepEqual(kept, memoriesBits(last)) {
				t.Errorf("samples and memories of one result share memory")
			}
			last = last[:cap(last)]
			for i := range last {
				last[i] = impl.Memory{A: 12345}
			}
			one, _, _ := impl.RunFilter(impl.Filter{B0: 1}, 0, false, impl.Memory{}, samples.list)
			overwrite(one)
			both, _ := impl.FilterBothWays(impl.Filter{B0: 1}, samples.list)
			overwrite(both)
			if !samples.isUntouched() || !filters.isUntouched() || !memories.isUntouched() {
				t.Errorf("a result of %d samples and %d filters shares memory with an argument", n, count)
			}
		}
	}
	first, _ := impl.ImpulseOf(ringing(), 0, 5)
	overwrite(first)
	second, ok := impl.ImpulseOf(ringing(), 0, 5)
	want, _ := plainRun(ringing(), 0, false, impl.Memory{}, []float32{1, 0, 0, 0, 0})
	wantSamples(t, "another impulse", second, ok, want)
}

func TestPromise1RunsOfNilAndEmptyLists(t *testing.T) {
	for i, pair := range [][2][]any{
		{runOutcome(impl.RunFilter(ringing(), 0, true, impl.Memory{A: 1}, nil)), runOutcome(impl.RunFilter(ringing(), 0, true, impl.Memory{A: 1}, []float32{}))},
		{runsOutcome(impl.RunFilters(nil, 1, true, []impl.Memory{}, nil)), runsOutcome(impl.RunFilters([]impl.Filter{}, 1, true, nil, []float32{}))},
		{outcome(impl.FilterBothWays(ringing(), nil)), outcome(impl.FilterBothWays(ringing(), []float32{}))},
	} {
		if !reflect.DeepEqual(pair[0], pair[1]) || pair[0][len(pair[0])-1] != true {
			t.Errorf("pair %d: %v and %v", i, pair[0], pair[1])
		}
	}
}
