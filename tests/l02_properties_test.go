package tests

import (
	"math"
	"math/big"
	"testing"

	"loop.example/g01170/impl"
)

func fraction(x float32) *big.Rat { return new(big.Rat).SetFloat64(float64(x)) }

// isInTriangle asks with fractions, which are never rounded.
func isInTriangle(a1, a2 float32) bool {
	for _, x := range []float32{a1, a2} {
		if isNaN(x) || x-x != 0 {
			return false
		}
	}
	one := big.NewRat(1, 1)
	first, second := fraction(a1), fraction(a2)
	limit := new(big.Rat).Add(one, second)
	return new(big.Rat).Abs(second).Cmp(one) < 0 && new(big.Rat).Abs(first).Cmp(limit) < 0
}

func wantStable(t *testing.T, a1, a2 float32, want bool) {
	t.Helper()
	for _, b := range []float32{0, 1, notANum, infinity} {
		if got := impl.IsStable(impl.Filter{B0: b, B1: b, B2: b, A1: a1, A2: a2}); got != want {
			t.Errorf("IsStable with A1 %v (%08x) and A2 %v (%08x) = %v", a1, math.Float32bits(a1), a2, math.Float32bits(a2), got)
		}
	}
}

func TestChapter2StableByHand(t *testing.T) {
	before1, behind1 := math.Nextafter32(1, 0), math.Nextafter32(1, 2)
	before2 := math.Nextafter32(2, 0)
	for _, row := range []struct {
		a1, a2 float32
		want   bool
	}{
		{0, 0, true}, {minus0, minus0, true}, {-0.5, 0, true}, {1.5, 0.75, true}, {-1.25, 0.5, true},
		{0, 1, false}, {0, -1, false}, {0, before1, true}, {0, -before1, true}, {0, behind1, false}, {0, -behind1, false},
		{1, 0, false}, {-1, 0, false}, {before1, 0, true}, {-before1, 0, true}, {1, minus0, false},
		{1, tiny, true}, {-1, tiny, true}, {1, -tiny, false}, {before1, -tiny, true}, {behind1, tiny, false},
		{1, 0x1p-126, true}, {1, 0x1p-60, true}, {1, 0x1p-24, true}, {behind1, 0x1p-23, false}, {behind1, math.Nextafter32(0x1p-23, 1), true},
		{before1, -0x1p-24, false}, {before1, -math.Nextafter32(0x1p-24, 0), true}, {-before1, -math.Nextafter32(0x1p-24, 1), false},
		{tiny, -before1, true}, {0x1p-24, -before1, false}, {math.Nextafter32(0x1p-24, 0), -before1, true}, {-0x1p-24, -before1, false},
		{2, before1, false}, {before2, before1, true}, {-before2, before1, true}, {1.5, 0.5, false}, {-1.5, 0.5, false},
		{before2, 1, false}, {2, 1, false}, {largest, 0.5, false}, {-largest, 0.5, false}, {0, largest, false}, {0, -largest, false},
		{infinity, 0, false}, {-infinity, 0, false}, {0, infinity, false}, {0, -infinity, false}, {infinity, infinity, false},
		{notANum, 0, false}, {0, notANum, false}, {notANum, notANum, false}, {rawNumber(0xffc00000), 0.5, false},
	} {
		wantStable(t, row.a1, row.a2, row.want)
	}
}

func TestChapter2StableIsExact(t *testing.T) {
	for _, a1 := range edgeNumbers() {
		for _, a2 := range edgeNumbers() {
			wantStable(t, a1, a2, isInTriangle(a1, a2))
		}
	}
	inside, outside := 0, 0
	for i := range 3000 {
		// A2 has any size below 1, and A1 is one of the numbers around 1 plus A2.
		a2 := rawNumber(mixedBits(i, 1)&0x807fffff | mixedBits(i, 2)%127<<23)
		if i%2 == 0 {
			a2 = rawNumber(mixedBits(i, 1)&0x807fffff | (110+mixedBits(i, 2)%17)<<23)
		}
		edge := math.Float32bits(1 + a2)
		for _, bits := range []uint32{edge - 1, edge, edge + 1} {
			a1 := rawNumber(bits | mixedBits(i, 3)&0x80000000)
			want := isInTriangle(a1, a2)
			wantStable(t, a1, a2, want)
			if want {
				inside++
			} else {
				outside++
			}
		}
	}
	if inside < 1000 || outside < 1000 {
		t.Errorf("%d filters are inside and %d outside", inside, outside)
	}
}

func TestChapter2Levels(t *testing.T) {
	wantNumber(t, "the example", impl.LevelOfFilter(impl.Filter{B0: 0.5, A1: -0.5}), 1)
	wantNumber(t, "a quotient", impl.LevelOfFilter(impl.Filter{B0: 1, B1: 2, B2: 4, A1: 0.5, A2: -0.25}), 5.6)
	wantNumber(t, "the sum of A from left to right", impl.LevelOfFilter(impl.Filter{B0: 1, A1: 16777216, A2: -16777216}), infinity)
	wantNumber(t, "the sum of B from left to right", impl.LevelOfFilter(impl.Filter{B0: 1, B1: 16777216, B2: -16777216}), 0)
	wantNumber(t, "the sum of B in this order", impl.LevelOfFilter(impl.Filter{B0: 16777216, B1: -16777216, B2: 1}), 1)
	wantNumber(t, "0 through 0", impl.LevelOfFilter(impl.Filter{A1: -1}), notANum)
	wantNumber(t, "through 0", impl.LevelOfFilter(impl.Filter{B0: -1, A1: -1}), -infinity)
	wantNumber(t, "nothing", impl.LevelOfFilter(impl.Filter{}), 0)
	wantNumber(t, "-0 in all three", impl.LevelOfFilter(impl.Filter{B0: minus0, B1: minus0, B2: minus0}), minus0)
	wantNumber(t, "not flushed", impl.LevelOfFilter(impl.Filter{B0: tiny}), tiny)
	wantNumber(t, "through infinity", impl.LevelOfFilter(impl.Filter{B0: -1, A1: infinity}), minus0)
	wantNumber(t, "out of range on the way", impl.LevelOfFilter(impl.Filter{B0: largest, B1: largest, B2: -largest}), infinity)
	for k := range 5 {
		n := mixedSamples(40, 5)
		n[k] = notANum
		wantNumber(t, "a not-a-number", impl.LevelOfFilter(filterOf(n)), notANum)
	}
	for i := range 2000 {
		f := filterOf(mixedSamples(50+i, 5))
		above, below := plus(plus(f.B0, f.B1), f.B2), plus(plus(1, f.A1), f.A2)
		wantNumber(t, "a level", impl.LevelOfFilter(f), float32(float64(above)/float64(below)))
	}
}

func wantFilter(t *testing.T, what string, got, want impl.Filter) {
	t.Helper()
	for k, pair := range [][2]float32{{got.B0, want.B0}, {got.B1, want.B1}, {got.B2, want.B2}, {got.A1, want.A1}, {got.A2, want.A2}} {
		if oneBits(pair[0]) != oneBits(pair[1]) {
			t.Errorf("%s: number %d is %v, want %v", what, k, pair[0], pair[1])
		}
	}
}

func TestChapter2SmoothFilters(t *testing.T) {
	for _, pair := range [][2]float32{
		{0.5, -0.5}, {1, 0}, {0, -1}, {minus0, -1}, {2, 1}, {-1, -2}, {0.25, -0.75}, {tiny, -1}, {0x1p-25, -1},
		{0x1p-24, rawNumber(0xbf7fffff)}, {16777216, 16777215}, {infinity, infinity}, {-infinity, -infinity}, {notANum, notANum},
	} {
		wantFilter(t, "SmoothFilter", impl.SmoothFilter(pair[0]), impl.Filter{B0: pair[0], A1: pair[1]})
	}
	for _, x := range mixedSamples(60, 200) {
		wantFilter(t, "SmoothFilter", impl.SmoothFilter(x), impl.Filter{B0: x, A1: plus(x, -1)})
	}
}

func TestChapter2ScaledFilters(t *testing.T) {
	wantFilter(t, "a gain", impl.ScaleFilter(impl.Filter{B0: 1, B1: 2, B2: 3, A1: 4, A2: 5}, -2), impl.Filter{B0: -2, B1: -4, B2: -6, A1: 4, A2: 5})
	for i, gain := range append(edgeNumbers(), mixedSamples(70, 50)...) {
		n := mixedSamples(i, 5)
		n[i%5] = edgeNumbers()[i%44]
		f := filterOf(n)
		want := impl.Filter{B0: times(f.B0, gain), B1: times(f.B1, gain), B2: times(f.B2, gain), A1: f.A1, A2: f.A2}
		wantFilter(t, "ScaleFilter", impl.ScaleFilter(f, gain), want)
	}
}

func wantRest(t *testing.T, what string, f impl.Filter, form int64, m impl.Memory, most, want int64) {
	t.Helper()
	if got, ok := impl.RestAfter(f, form, m, most); !ok || got != want {
		t.Errorf("%s: RestAfter = %d %v, want %d", what, got, ok, want)
	}
}

func wantNoRest(t *testing.T, what string, f impl.Filter, form int64, m impl.Memory, most int64) {
	t.Helper()
	got, ok := impl.RestAfter(f, form, m, most)
	wantZero(t, what, got, ok)
}

func TestChapter2RestAtOnce(t *testing.T) {
	for _, form := range forms() {
		for _, most := range []int64{0, 1, 10000} {
			wantRest(t, "zeros", ringing(), form, impl.Memory{}, most, 0)
			wantRest(t, "both zeros", ringing(), form, impl.Memory{A: minus0, B: 0, C: minus0, D: minus0}, most, 0)
			wantRest(t, "zeros of any filter", impl.Filter{B0: notANum, A1: infinity}, form, impl.Memory{}, most, 0)
		}
		for _, most := range []int64{-1, 10001, math.MinInt64, math.MaxInt64} {
			wantNoRest(t, "most", ringing(), form, impl.Memory{}, most)
			wantNoRest(t, "most", impl.SmoothFilter(1), form, impl.Memory{A: 1}, most)
		}
	}
}

func TestChapter2RestByHand(t *testing.T) {
	copying := impl.Filter{B0: 1}
	wantRest(t, "B of direct", copying, impl.FormDirect, impl.Memory{B: 1}, 10, 1)
	wantRest(t, "A of direct", copying, impl.FormDirect, impl.Memory{A: 1}, 10, 2)
	wantRest(t, "D of direct", copying, impl.FormDirect, impl.Memory{D: 1}, 10, 1)
	wantRest(t, "C of direct", copying, impl.FormDirect, impl.Memory{C: 1}, 10, 2)
	wantRest(t, "A of turned", copying, impl.FormTurned, impl.Memory{A: 1}, 10, 1)
	wantRest(t, "B of turned", copying, impl.FormTurned, impl.Memory{B: 1}, 10, 2)
	wantRest(t, "B of canonic", copying, impl.FormCanonic, impl.Memory{B: 1}, 10, 1)
	wantRest(t, "A of canonic", copying, impl.FormCanonic, impl.Memory{A: 1}, 10, 2)
	for _, form := range []int64{impl.FormTurned, impl.FormCanonic} {
		wantRest(t, "C and D, of which only direct makes use", copying, form, impl.Memory{C: infinity, D: notANum}, 10, 1)
	}
	for _, form := range forms() {
		wantNoRest(t, "a subnormal number is no zero", copying, form, impl.Memory{B: tiny, D: tiny}, 0)
		wantNoRest(t, "numbers whose sum is 0", copying, form, impl.Memory{A: 1, B: -1, C: 2, D: -2}, 0)
		wantNoRest(t, "one sample less", copying, form, impl.Memory{A: 1, B: 1, C: 1}, 1)
		wantNoRest(t, "never, with infinity", ringing(), form, impl.Memory{A: infinity}, 10000)
		wantNoRest(t, "never, with a not-a-number", ringing(), form, impl.Memory{B: notANum}, 10000)
	}
	wantRest(t, "a subnormal number is flushed", copying, impl.FormDirect, impl.Memory{A: tiny, C: tiny}, 10, 1)
	wantNoRest(t, "a level that stays", impl.Filter{A1: -1}, impl.FormTurned, impl.Memory{A: 1}, 10000)
	wantNoRest(t, "a level that grows", impl.Filter{A1: -2}, impl.FormCanonic, impl.Memory{A: 0x1p-126}, 10000)
}

func TestChapter2RestAtTheLimit(t *testing.T) {
	slow := impl.SmoothFilter(0.01)
	for _, row := range []struct {
		form               int64
		less, exactly, one float32
	}{{impl.FormDirect, 507216, 513216, 518216}, {impl.FormTurned, 513216, 518216, 523216}, {impl.FormCanonic, 507216, 513216, 518216}} {
		memory := func(x float32) impl.Memory {
			if row.form == impl.FormDirect {
				return impl.Memory{C: x}
			}
			return impl.Memory{A: x}
		}
		wantRest(t, "one less", slow, row.form, memory(row.less), 10000, 9999)
		wantRest(t, "exactly", slow, row.form, memory(row.exactly), 10000, 10000)
		wantNoRest(t, "exactly, but less is asked for", slow, row.form, memory(row.exactly), 9999)
		wantNoRest(t, "one more", slow, row.form, memory(row.one), 10000)
	}
}
