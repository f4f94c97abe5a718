package tests

import (
	"math"
	"slices"
	"testing"

	"loop.example/g01170/impl"
)

// plainRun steps through samples one by one, apart from the program.
func plainRun(f impl.Filter, form int64, flush bool, m impl.Memory, samples []float32) ([]float32, impl.Memory) {
	out := make([]float32, len(samples))
	for i, x := range samples {
		out[i], m = plainStep(f, form, flush, m, x)
	}
	return out, m
}

func wantRun(t *testing.T, what string, f impl.Filter, form int64, flush bool, m impl.Memory, samples []float32) {
	t.Helper()
	want, last := plainRun(f, form, flush, m, samples)
	got, memory, ok := impl.RunFilter(f, form, flush, m, samples)
	wantSamples(t, what, got, ok, want)
	wantMemory(t, what, memory, last)
}

// ringing is a stable filter that sounds for some time.
func ringing() impl.Filter { return impl.Filter{B0: 0.2, B1: 0.4, B2: -0.1, A1: -1.5, A2: 0.7} }

func scaled(list []float32, by float32) []float32 {
	out := make([]float32, len(list))
	for i, x := range list {
		out[i] = times(x, by)
	}
	return out
}

func TestChapter2RunsOfAllLengths(t *testing.T) {
	for _, n := range lengths() {
		for _, scale := range []float32{1, 0x1p-131} {
			m, samples := memoryOf(scaled(mixedSamples(n, 4), scale)), scaled(mixedSamples(n+1, n), scale)
			for _, form := range forms() {
				wantRun(t, "flushed", ringing(), form, true, m, samples)
				wantRun(t, "not flushed", ringing(), form, false, m, samples)
				wantRun(t, "edges", filterOf(mixedSamples(n, 5)), form, n%2 == 0, m, edgeNumbers())
			}
		}
	}
}

// runRow has the text of the last memory and the check number of the text of 256 filtered samples.
type runRow struct {
	scale  float32
	form   int64
	flush  bool
	memory string
	check  int64
}

// runRows were computed apart from the program, with fractions that are rounded after each operation.
func runRows() []runRow {
	return []runRow{
		{1, 0, false, "3dd44a2a,3c999f33,42e99bd9,42f44260", 55731},
		{1, 0, true, "3dd44a2a,3c999f33,42e99bd9,42f44260", 55731},
		{1, 1, false, "42b382c4,c2a38bfe,00000000,00000000", 57769},
		{1, 1, true, "42b382c4,c2a38bfe,00000000,00000000", 57769},
		{1, 2, false, "43529747,43703e2e,00000000,00000000", 22554},
		{1, 2, true, "43529747,43703e2e,00000000,00000000", 22554},
		{0x1p-131, 0, false, "00006a25,00001334,01699bd6,0174425e", 45101},
		{0x1p-131, 0, true, "00000000,00000000,0159289a,0166a702", 50215},
		{0x1p-131, 1, false, "013382c5,81238bfe,00000000,00000000", 16873},
		{0x1p-131, 1, true, "0108f694,80e56299,00000000,00000000", 44808},
		{0x1p-131, 2, false, "01d2974d,01f03e30,00000000,00000000", 43606},
		{0x1p-131, 2, true, "01d000af,01ecc5a5,00000000,00000000", 39533},
	}
}

func checkOfSamples(t *testing.T, samples []float32) int64 {
	t.Helper()
	text, ok := impl.NumbersText(samples)
	if !ok {
		t.Fatalf("no text of %d samples", len(samples))
	}
	check, _ := impl.CheckOf(0, text)
	return check
}

func TestChapter2RunsComputedApart(t *testing.T) {
	for _, row := range runRows() {
		m, samples := memoryOf(scaled(mixedSamples(90, 4), row.scale)), scaled(mixedSamples(91, 256), row.scale)
		out, last, ok := impl.RunFilter(ringing(), row.form, row.flush, m, samples)
		text, _ := impl.NumbersText([]float32{last.A, last.B, last.C, last.D})
		if check := checkOfSamples(t, out); !ok || text != row.memory || check != row.check {
			t.Errorf("form %d, flush %v: %s and %d, want %s and %d", row.form, row.flush, text, check, row.memory, row.check)
		}
	}
}

func TestChapter2NoSamplesKeepMemories(t *testing.T) {
	m := impl.Memory{A: tiny, B: minus0, C: notANum, D: 5}
	for _, form := range forms() {
		for _, flush := range []bool{false, true} {
			out, last, ok := impl.RunFilter(ringing(), form, flush, m, nil)
			wantSamples(t, "no samples", out, ok, nil)
			wantMemory(t, "no samples", last, m)
			out, memories, ok := impl.RunFilters([]impl.Filter{{}, ringing()}, form, flush, []impl.Memory{{}, m}, []float32{})
			wantSamples(t, "no samples of two filters", out, ok, nil)
			wantMemories(t, "no samples of two filters", memories, []impl.Memory{{}, m})
		}
	}
}

func TestChapter2RunsAreCutAnywhere(t *testing.T) {
	m, samples := memoryOf(mixedSamples(20, 4)), mixedSamples(21, 100)
	for _, form := range forms() {
		whole, end, _ := impl.RunFilter(ringing(), form, true, m, samples)
		for _, cut := range []int{0, 1, 50, 99, 100} {
			first, middle, ok := impl.RunFilter(ringing(), form, true, m, samples[:cut])
			second, last, also := impl.RunFilter(ringing(), form, true, middle, samples[cut:])
			wantSamples(t, "both parts", slices.Concat(first, second), ok && also, whole)
			wantMemory(t, "both parts", last, end)
		}
	}
}

func TestChapter2TooManySamples(t *testing.T) {
	for _, n := range []int{257, 1000} {
		samples := make([]float32, n)
		out, last, ok := impl.RunFilter(ringing(), 0, false, impl.Memory{A: 1}, samples)
		wantNoList(t, "RunFilter", out, ok)
		wantZero(t, "RunFilter", last, ok)
		for _, filters := range []int{0, 1, 6} {
			out, memories, ok := impl.RunFilters(make([]impl.Filter, filters), 0, false, make([]impl.Memory, filters), samples)
			wantNoList(t, "RunFilters", out, ok)
			wantNoList(t, "RunFilters", memories, ok)
		}
		out, ok = impl.FilterBothWays(ringing(), samples)
		wantNoList(t, "FilterBothWays", out, ok)
	}
}

func wantMemories(t *testing.T, what string, got, want []impl.Memory) {
	t.Helper()
	if len(got) != len(want) {
		t.Errorf("%s: %d memories, want %d", what, len(got), len(want))
		return
	}
	for i := range want {
		wantMemory(t, what, got[i], want[i])
	}
}

func severalFilters(seed, count int) ([]impl.Filter, []impl.Memory) {
	var filters []impl.Filter
	var memories []impl.Memory
	for i := range count {
		filters = append(filters, filterOf(mixedSamples(seed+i, 5)))
		memories = append(memories, memoryOf(mixedSamples(seed+i+1000, 4)))
	}
	return filters, memories
}

func TestChapter2FiltersOneAfterAnother(t *testing.T) {
	for count := range impl.MaxFilters + 1 {
		for _, n := range []int{0, 1, 9, 256} {
			filters, memories := severalFilters(30+n, count)
			for _, form := range forms() {
				flush := (count+n)%2 == 0
				want := mixedSamples(n, n)
				ends := make([]impl.Memory, count)
				for i, f := range filters {
					want, ends[i] = plainRun(f, form, flush, memories[i], want)
				}
				got, last, ok := impl.RunFilters(filters, form, flush, memories, mixedSamples(n, n))
				wantSamples(t, "several filters", got, ok, want)
				wantMemories(t, "several filters", last, ends)
			}
		}
	}
}

func TestChapter2NoFilterChangesNothing(t *testing.T) {
	for _, flush := range []bool{false, true} {
		got, last, ok := impl.RunFilters(nil, impl.FormCanonic, flush, nil, edgeNumbers())
		wantSamples(t, "no filter", got, ok, edgeNumbers())
		wantMemories(t, "no filter", last, nil)
	}
}

func TestChapter2WrongNumbersOfFilters(t *testing.T) {
	for _, counts := range [][2]int{{7, 7}, {100, 100}, {1, 0}, {0, 1}, {2, 1}, {1, 2}, {6, 7}, {7, 6}, {6, 5}} {
		for _, form := range forms() {
			for _, samples := range [][]float32{nil, {1}} {
				out, memories, ok := impl.RunFilters(make([]impl.Filter, counts[0]), form, false, make([]impl.Memory, counts[1]), samples)
				wantNoList(t, "RunFilters", out, ok)
				wantNoList(t, "RunFilters", memories, ok)
			}
		}
	}
}

func TestChapter2Impulses(t *testing.T) {
	for _, form := range forms() {
		got, ok := impl.ImpulseOf(impl.Filter{B0: 0.5, A1: -0.5}, form, 3)
		wantSamples(t, "the example", got, ok, []float32{0.5, 0.25, 0.125})
		for _, n := range lengths() {
			samples := make([]float32, n)
			if n > 0 {
				samples[0] = 1
			}
			for _, f := range []impl.Filter{ringing(), filterOf(mixedSamples(n, 5)), {B0: tiny, B1: -tiny, A1: 0.5}, {B0: notANum}, {A1: infinity}} {
				want, _ := plainRun(f, form, false, impl.Memory{}, samples)
				got, ok := impl.ImpulseOf(f, form, int64(n))
				wantSamples(t, "an impulse", got, ok, want)
			}
		}
		for _, count := range []int64{-1, 257, math.MinInt64, math.MaxInt64, 1 << 32} {
			got, ok := impl.ImpulseOf(ringing(), form, count)
			wantNoList(t, "ImpulseOf", got, ok)
		}
	}
	got, ok := impl.ImpulseOf(impl.Filter{B0: tiny}, impl.FormCanonic, 2)
	wantSamples(t, "an impulse is not flushed", got, ok, []float32{tiny, 0})
}

func TestChapter2BothWays(t *testing.T) {
	got, ok := impl.FilterBothWays(impl.Filter{B0: 1, B1: 1}, []float32{1, 0, 0})
	wantSamples(t, "one sample back", got, ok, []float32{2, 1, 0})
	got, ok = impl.FilterBothWays(impl.Filter{B0: 1, B1: 2, B2: 4}, []float32{0, 0, 1, 0, 0})
	wantSamples(t, "an impulse in the middle", got, ok, []float32{4, 10, 21, 10, 4})
	got, ok = impl.FilterBothWays(impl.Filter{B0: 1}, []float32{1, tiny, minus0})
	wantSamples(t, "nothing is flushed", got, ok, []float32{1, tiny, 0})
	for _, n := range lengths() {
		for _, f := range []impl.Filter{ringing(), filterOf(mixedSamples(n, 5))} {
			want, _ := plainRun(f, impl.FormDirect, false, impl.Memory{}, mixedSamples(n, n))
			slices.Reverse(want)
			want, _ = plainRun(f, impl.FormDirect, false, impl.Memory{}, want)
			slices.Reverse(want)
			got, ok := impl.FilterBothWays(f, mixedSamples(n, n))
			wantSamples(t, "both ways", got, ok, want)
		}
	}
	got, _ = impl.FilterBothWays(ringing(), mixedSamples(91, 256))
	if check := checkOfSamples(t, got); check != 47100 {
		t.Errorf("both ways, computed apart: the check number is %d", check)
	}
}
