package tests

import (
	"math"
	"testing"

	"loop.example/g01170/impl"
)

func forms() []int64 { return []int64{impl.FormDirect, impl.FormTurned, impl.FormCanonic} }

func wrongForms() []int64 { return []int64{-1, 3, math.MinInt64, math.MaxInt64, 1 << 32} }

// times and plus are exact in 64 bits, or are rounded there so little that the conversion rounds as if they were.
func times(a, b float32) float32 { return float32(float64(a) * float64(b)) }

func plus(a, b float32) float32 { return float32(float64(a) + float64(b)) }

func flushedIf(flush bool, x float32) float32 {
	if flush && math.Abs(float64(x)) < 0x1p-126 {
		return float32(math.Copysign(0, float64(x)))
	}
	return x
}

// plainStep does what the document tells of the forms, apart from the program.
func plainStep(f impl.Filter, form int64, flush bool, m impl.Memory, x float32) (float32, impl.Memory) {
	var y float32
	var n impl.Memory
	switch form {
	case impl.FormDirect:
		y = plus(times(f.B0, x), times(f.B1, m.A))
		y = plus(y, times(f.B2, m.B))
		y = plus(y, -times(f.A1, m.C))
		y = flushedIf(flush, plus(y, -times(f.A2, m.D)))
		n = impl.Memory{A: x, B: m.A, C: y, D: m.C}
	case impl.FormTurned:
		y = flushedIf(flush, plus(times(f.B0, x), m.A))
		n.A = plus(plus(times(f.B1, x), -times(f.A1, y)), m.B)
		n.B = plus(times(f.B2, x), -times(f.A2, y))
	case impl.FormCanonic:
		w := plus(plus(x, -times(f.A1, m.A)), -times(f.A2, m.B))
		w = flushedIf(flush, w)
		y = flushedIf(flush, plus(plus(times(f.B0, w), times(f.B1, m.A)), times(f.B2, m.B)))
		n.A, n.B = w, m.A
	}
	n.A, n.B = flushedIf(flush, n.A), flushedIf(flush, n.B)
	n.C, n.D = flushedIf(flush, n.C), flushedIf(flush, n.D)
	return y, n
}

func memoryBits(m impl.Memory) [4]uint32 {
	return [4]uint32{oneBits(m.A), oneBits(m.B), oneBits(m.C), oneBits(m.D)}
}

func wantMemory(t *testing.T, what string, got, want impl.Memory) {
	t.Helper()
	if memoryBits(got) != memoryBits(want) {
		t.Errorf("%s: got the memory %v %08x, want %v %08x", what, got, memoryBits(got), want, memoryBits(want))
	}
}

func wantStep(t *testing.T, what string, f impl.Filter, form int64, flush bool, m impl.Memory, x, y float32, next impl.Memory) {
	t.Helper()
	got, memory, ok := impl.FilterStep(f, form, flush, m, x)
	wantSum(t, what, got, ok, y)
	wantMemory(t, what, memory, next)
}

func filterOf(n []float32) impl.Filter {
	return impl.Filter{B0: n[0], B1: n[1], B2: n[2], A1: n[3], A2: n[4]}
}

func memoryOf(n []float32) impl.Memory { return impl.Memory{A: n[0], B: n[1], C: n[2], D: n[3]} }

func TestChapter2StepsByHand(t *testing.T) {
	g := impl.Filter{B0: 1, B1: 2, B2: 4, A1: 0.5, A2: -0.25}
	m := impl.Memory{A: 1, B: 3, C: 2, D: 4}
	wantStep(t, "direct", g, impl.FormDirect, false, m, 2, 16, impl.Memory{A: 2, B: 1, C: 16, D: 2})
	wantStep(t, "turned", g, impl.FormTurned, false, m, 2, 3, impl.Memory{A: 5.5, B: 8.75})
	wantStep(t, "canonic", g, impl.FormCanonic, false, m, 2, 16.25, impl.Memory{A: 2.25, B: 1})
	for _, form := range forms() {
		wantStep(t, "no filter", impl.Filter{}, form, false, impl.Memory{}, 0, 0, impl.Memory{})
	}
}

func TestChapter2StepsAreThoseOfTheDocument(t *testing.T) {
	edges := edgeNumbers()
	for i := range 6000 {
		n := mixedSamples(i, 10)
		switch i % 4 {
		case 1: // Some numbers are edges.
			for k := range n {
				if bits := mixedBits(i, 100+k); bits%3 == 0 {
					n[k] = edges[bits/3%uint32(len(edges))]
				}
			}
		case 2: // The memory and the sample are near the subnormal numbers.
			for k := 5; k < 10; k++ {
				n[k] = times(n[k], 0x1p-127)
			}
		case 3: // Any bits.
			for k := range n {
				n[k] = rawNumber(mixedBits(i, 200+k))
			}
		}
		f, m := filterOf(n), memoryOf(n[5:])
		for _, form := range forms() {
			for _, flush := range []bool{false, true} {
				y, next := plainStep(f, form, flush, m, n[9])
				wantStep(t, "a step", f, form, flush, m, n[9], y, next)
			}
		}
	}
}

func TestChapter2SumsAreFromLeftToRight(t *testing.T) {
	const big = 16777216
	f := impl.Filter{B0: 1, B1: 1, B2: 1, A1: -1, A2: -1}
	wantStep(t, "direct, the big one first", f, impl.FormDirect, false, impl.Memory{A: 1, B: 1, C: 1, D: 1}, big,
		big, impl.Memory{A: big, B: 1, C: big, D: 1})
	wantStep(t, "direct, the big one last", f, impl.FormDirect, false, impl.Memory{A: 1, B: 1, C: 1, D: big}, 1,
		big+4, impl.Memory{A: 1, B: 1, C: big + 4, D: 1})
	wantStep(t, "direct, the big one in the middle", f, impl.FormDirect, false, impl.Memory{A: 1, B: big, C: 1, D: 1}, 1,
		big+4, impl.Memory{A: 1, B: 1, C: big + 4, D: 1})
	wantStep(t, "turned, the big one first", f, impl.FormTurned, false, impl.Memory{A: 1 - big, B: 1}, big,
		1, impl.Memory{A: big, B: big})
	wantStep(t, "turned, the big one last", f, impl.FormTurned, false, impl.Memory{B: big}, 1,
		1, impl.Memory{A: big + 2, B: 2})
	wantStep(t, "canonic, the big one first", f, impl.FormCanonic, false, impl.Memory{A: 1, B: 1}, big,
		big, impl.Memory{A: big, B: 1})
	wantStep(t, "canonic, the big one last", f, impl.FormCanonic, false, impl.Memory{A: 1, B: big}, 1,
		33554436, impl.Memory{A: big + 2, B: 1})
}

func TestChapter2ProductsAreRoundedOnTheirOwn(t *testing.T) {
	x := 1 + float32(1)/4096
	square := 1 + float32(1)/2048 // The product of x and x is this and 2^-24, which is rounded away.
	wantStep(t, "direct, B0 and B1", impl.Filter{B0: x, B1: -1}, impl.FormDirect, false, impl.Memory{A: square}, x,
		0, impl.Memory{A: x, B: square})
	wantStep(t, "direct, B1 and B0", impl.Filter{B0: -1, B1: x}, impl.FormDirect, false, impl.Memory{A: x}, square,
		0, impl.Memory{A: square, B: x})
	wantStep(t, "direct, B2", impl.Filter{B0: -1, B2: x}, impl.FormDirect, false, impl.Memory{B: x}, square,
		0, impl.Memory{A: square})
	wantStep(t, "direct, A1", impl.Filter{B0: 1, A1: x}, impl.FormDirect, false, impl.Memory{C: x}, square,
		0, impl.Memory{A: square, D: x})
	wantStep(t, "direct, A2", impl.Filter{B0: 1, A2: x}, impl.FormDirect, false, impl.Memory{D: x}, square,
		0, impl.Memory{A: square})
	wantStep(t, "turned, B0", impl.Filter{B0: x}, impl.FormTurned, false, impl.Memory{A: -square}, x,
		0, impl.Memory{})
	wantStep(t, "turned, B1 and B2", impl.Filter{B0: 1, B1: x, A1: 1, B2: x, A2: 1}, impl.FormTurned, false, impl.Memory{A: square - x}, x,
		square, impl.Memory{})
	wantStep(t, "turned, A1 and A2", impl.Filter{B1: 1, A1: x, B2: 1, A2: x}, impl.FormTurned, false, impl.Memory{A: x}, square,
		x, impl.Memory{})
	wantStep(t, "canonic, A1", impl.Filter{A1: x}, impl.FormCanonic, false, impl.Memory{A: x}, square,
		0, impl.Memory{B: x})
	wantStep(t, "canonic, A2", impl.Filter{A2: x}, impl.FormCanonic, false, impl.Memory{B: x}, square,
		0, impl.Memory{})
	wantStep(t, "canonic, B1", impl.Filter{B0: -1, B1: x}, impl.FormCanonic, false, impl.Memory{A: x}, square,
		0, impl.Memory{A: square, B: x})
	wantStep(t, "canonic, B2", impl.Filter{B0: -1, B2: x}, impl.FormCanonic, false, impl.Memory{B: x}, square,
		0, impl.Memory{A: square})
	wantStep(t, "canonic, B0", impl.Filter{B0: x, B1: -1}, impl.FormCanonic, false, impl.Memory{A: square}, x,
		0, impl.Memory{A: x, B: square})
}

func TestChapter2FlushedBeforeUse(t *testing.T) {
	least := float32(0x1p-126)
	half := float32(0x1p-127)
	wantStep(t, "turned, y is flushed before A1 and A2", impl.Filter{B0: 0.5, A1: -2, A2: -2}, impl.FormTurned, true, impl.Memory{}, least,
		0, impl.Memory{})
	wantStep(t, "turned, y is not flushed", impl.Filter{B0: 0.5, A1: -2, A2: -2}, impl.FormTurned, false, impl.Memory{}, least,
		half, impl.Memory{A: least, B: least})
	wantStep(t, "canonic, w is flushed before B0", impl.Filter{B0: 2}, impl.FormCanonic, true, impl.Memory{}, half,
		0, impl.Memory{})
	wantStep(t, "canonic, w is not flushed", impl.Filter{B0: 2}, impl.FormCanonic, false, impl.Memory{}, half,
		least, impl.Memory{A: half})
	wantStep(t, "canonic, y is flushed, but not w", impl.Filter{B0: 0.5}, impl.FormCanonic, true, impl.Memory{}, -least,
		minus0, impl.Memory{A: -least})
	wantStep(t, "direct, x is used as it is", impl.Filter{B0: 2}, impl.FormDirect, true, impl.Memory{}, half,
		least, impl.Memory{C: least})
	wantStep(t, "direct, the memory is used as it is", impl.Filter{B1: 2, B2: 2}, impl.FormDirect, true, impl.Memory{A: half, B: half}, 1,
		2*least, impl.Memory{A: 1, C: 2 * least})
	wantStep(t, "the least normal number stays", impl.Filter{B0: 1}, impl.FormDirect, true, impl.Memory{A: -least, C: least}, least,
		least, impl.Memory{A: least, B: -least, C: least, D: least})
}

func TestChapter2FlushedMemories(t *testing.T) {
	below := rawNumber(0x807fffff)
	wantStep(t, "direct, all numbers", impl.Filter{B0: 1}, impl.FormDirect, true, impl.Memory{A: tiny, B: 5, C: below, D: 5}, below,
		minus0, impl.Memory{A: minus0, B: 0, C: minus0, D: minus0})
	wantStep(t, "direct, not flushed", impl.Filter{B0: 1}, impl.FormDirect, false, impl.Memory{A: tiny, B: 5, C: below, D: 5}, below,
		below, impl.Memory{A: below, B: tiny, C: below, D: below})
	wantStep(t, "turned, both numbers", impl.Filter{B1: 1, B2: 2}, impl.FormTurned, true, impl.Memory{B: tiny}, below,
		0, impl.Memory{A: minus0, B: 2 * below})
	wantStep(t, "turned, the second one", impl.Filter{B2: 1}, impl.FormTurned, true, impl.Memory{}, below,
		0, impl.Memory{B: minus0})
	wantStep(t, "canonic, both numbers", impl.Filter{}, impl.FormCanonic, true, impl.Memory{A: below, B: 1}, tiny,
		0, impl.Memory{A: 0, B: minus0})
	wantStep(t, "canonic, not flushed", impl.Filter{}, impl.FormCanonic, false, impl.Memory{A: below, B: 1}, tiny,
		0, impl.Memory{A: tiny, B: below})
}

func TestChapter2LastTwoNumbersBecomeZero(t *testing.T) {
	for _, x := range edgeNumbers() {
		for _, flush := range []bool{false, true} {
			for _, form := range []int64{impl.FormTurned, impl.FormCanonic} {
				wantStep(t, "C and D", impl.Filter{}, form, flush, impl.Memory{C: x, D: x}, 0, 0, impl.Memory{})
			}
		}
	}
}

func TestChapter2WrongForms(t *testing.T) {
	f, m := impl.Filter{B0: 1}, impl.Memory{A: 1, B: 2, C: 3, D: 4}
	for _, form := range wrongForms() {
		y, next, ok := impl.FilterStep(f, form, false, m, 5)
		wantZero(t, "FilterStep", y, ok)
		wantZero(t, "FilterStep", next, ok)
		for _, samples := range [][]float32{nil, {1, 2}} {
			out, last, ok := impl.RunFilter(f, form, true, m, samples)
			wantNoList(t, "RunFilter", out, ok)
			wantZero(t, "RunFilter", last, ok)
			out, memories, ok := impl.RunFilters([]impl.Filter{f}, form, true, []impl.Memory{m}, samples)
			wantNoList(t, "RunFilters", out, ok)
			wantNoList(t, "RunFilters", memories, ok)
			out, memories, ok = impl.RunFilters(nil, form, true, nil, samples)
			wantNoList(t, "RunFilters of none", out, ok)
			wantNoList(t, "RunFilters of none", memories, ok)
		}
		for _, count := range []int64{0, 1, 256} {
			out, ok := impl.ImpulseOf(f, form, count)
			wantNoList(t, "ImpulseOf", out, ok)
			rest, ok := impl.RestAfter(f, form, impl.Memory{}, count)
			wantZero(t, "RestAfter", rest, ok)
		}
	}
}

func TestChapter2SameMemory(t *testing.T) {
	edges := edgeNumbers()
	for _, a := range edges {
		for _, b := range edges {
			want := oneBits(a) == oneBits(b)
			for k := range 4 {
				first, second := mixedSamples(k, 4), mixedSamples(k, 4)
				first[k], second[k] = a, b
				if got := impl.SameMemory(memoryOf(first), memoryOf(second)); got != want {
					t.Errorf("SameMemory with %v and %v at %d: %v", a, b, k, got)
				}
			}
		}
	}
	if !impl.SameMemory(impl.Memory{}, impl.Memory{}) || impl.SameMemory(impl.Memory{A: 1, B: 2}, impl.Memory{A: 2, B: 1}) {
		t.Error("SameMemory of plain memories")
	}
}
