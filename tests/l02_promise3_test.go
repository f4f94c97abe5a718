package tests

import (
	"math/big"
	"testing"

	"loop.example/g01170/impl"
)

// exactFilter has numbers with so few bits that nothing is rounded in a short run.
func exactFilter(seed int) impl.Filter {
	n := make([]float32, 5)
	for k := range n {
		n[k] = float32(mixedBits(seed, k)%9)/2 - 2
		if k > 2 {
			n[k] /= 2
		}
	}
	return filterOf(n)
}

func exactSamples(seed, count int) []float32 {
	samples := make([]float32, count)
	for i := range samples {
		samples[i] = float32(mixedBits(seed, 100+i)%9) - 4
	}
	return samples
}

// exactOutput is the sum over samples and results that all forms stand for, in fractions.
func exactOutput(f impl.Filter, samples []float32) []*big.Rat {
	out := make([]*big.Rat, len(samples))
	for i := range samples {
		y := new(big.Rat)
		for k, b := range []float32{f.B0, f.B1, f.B2} {
			if i >= k {
				y.Add(y, new(big.Rat).Mul(fraction(b), fraction(samples[i-k])))
			}
		}
		for k, a := range []float32{f.A1, f.A2} {
			if i > k {
				y.Sub(y, new(big.Rat).Mul(fraction(a), out[i-k-1]))
			}
		}
		out[i] = y
	}
	return out
}

func TestPromise3FormsDoTheSameWhereNumbersAreExact(t *testing.T) {
	for i := range 500 {
		f, samples := exactFilter(i), exactSamples(i, 7)
		want := exactOutput(f, samples)
		for _, form := range forms() {
			for _, flush := range []bool{false, true} {
				got, _, ok := impl.RunFilter(f, form, flush, impl.Memory{}, samples)
				if !ok || len(got) != len(want) {
					t.Fatalf("form %d: %v %v", form, got, ok)
				}
				for k, y := range got {
					if fraction(y).Cmp(want[k]) != 0 {
						t.Fatalf("form %d of %v: sample %d is %v, want %v", form, f, k, y, want[k])
					}
				}
			}
		}
	}
}

func TestPromise3ImpulsesOfAllForms(t *testing.T) {
	for i := range 100 {
		f := exactFilter(1000 + i)
		direct, _ := impl.ImpulseOf(f, impl.FormDirect, 7)
		for _, form := range forms() {
			got, ok := impl.ImpulseOf(f, form, 7)
			if !ok || len(got) != 7 {
				t.Fatalf("form %d: %v %v", form, got, ok)
			}
			for k := range got {
				if got[k] != direct[k] {
					t.Errorf("form %d of %v: sample %d is %v, and %v in the first form", form, f, k, got[k], direct[k])
				}
			}
		}
	}
}

// loudMemory is what a smooth filter keeps of the level 1.
func loudMemory(form int64) impl.Memory {
	if form == impl.FormDirect {
		return impl.Memory{C: 1}
	}
	return impl.Memory{A: 1}
}

func TestPromise3SmoothFiltersComeToRest(t *testing.T) {
	// The numbers of samples were computed apart from the program.
	for _, row := range []struct {
		share float32
		rest  [3]int64
	}{
		{1, [3]int64{2, 1, 2}}, {0.5, [3]int64{128, 127, 128}}, {0.25, [3]int64{305, 304, 305}}, {0.125, [3]int64{656, 655, 656}},
		{0.0625, [3]int64{1355, 1354, 1355}}, {0.03125, [3]int64{2752, 2751, 2752}}, {0.01, [3]int64{8691, 8690, 8691}},
		{1.5, [3]int64{128, 127, 128}}, {1.875, [3]int64{656, 655, 656}},
	} {
		f := impl.SmoothFilter(row.share)
		if !impl.IsStable(f) {
			t.Errorf("the filter with the share %v is not stable", row.share)
		}
		for _, form := range forms() {
			want := row.rest[form]
			wantRest(t, "a smooth filter", f, form, loudMemory(form), 10000, want)
			wantRest(t, "just in time", f, form, loudMemory(form), want, want)
			wantNoRest(t, "a sample too early", f, form, loudMemory(form), want-1)
		}
	}
}

// runZeros filters so many samples +0 in blocks, and returns the last memory.
func runZeros(t *testing.T, f impl.Filter, form int64, m impl.Memory, count int64) impl.Memory {
	t.Helper()
	for count > 0 {
		n := min(count, impl.MaxSamples)
		_, next, ok := impl.RunFilter(f, form, true, m, make([]float32, n))
		if !ok {
			t.Fatal("RunFilter fails")
		}
		m = next
		count -= n
	}
	return m
}

func TestPromise3RestIsWhereRunsEndInZeros(t *testing.T) {
	found := 0
	for i := range 60 {
		n := mixedSamples(80+i, 10)
		f := impl.Filter{B0: n[0], B1: n[1], B2: n[2], A1: float32(mixedBits(i, 1)%200)/128 - 0.78, A2: float32(mixedBits(i, 2)%100) / 128}
		for _, form := range forms() {
			_, m, _ := impl.RunFilter(f, form, true, impl.Memory{}, n)
			rest, ok := impl.RestAfter(f, form, m, 3000)
			if !ok {
				continue
			}
			found++
			if end := runZeros(t, f, form, m, rest); end != (impl.Memory{}) {
				t.Errorf("form %d of %v: %v behind %d samples", form, f, end, rest)
			}
			if before := runZeros(t, f, form, m, rest-1); rest < 1 || before == (impl.Memory{}) {
				t.Errorf("form %d of %v: rest before %d samples", form, f, rest)
			}
		}
	}
	if found < 60 {
		t.Errorf("only %d filters come to rest", found)
	}
}

func TestPromise3WithoutFlushingTailsAreSubnormal(t *testing.T) {
	f := impl.SmoothFilter(0.5)
	for _, form := range forms() {
		m := runZeros(t, f, form, loudMemory(form), 120)
		out, _, ok := impl.RunFilter(f, form, false, m, make([]float32, 20))
		if !ok || !impl.IsSubnormal(out[10]) {
			t.Errorf("form %d: %v %v, want subnormal numbers", form, out, ok)
		}
		out, last, ok := impl.RunFilter(f, form, true, m, make([]float32, 20))
		if !ok || last != (impl.Memory{}) || out[19] != 0 {
			t.Errorf("form %d: %v %v, want zeros", form, out, last)
		}
		for _, y := range out {
			if impl.IsSubnormal(y) {
				t.Errorf("form %d: the number %v is not flushed", form, y)
			}
		}
	}
}
