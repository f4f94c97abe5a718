package tests

import (
	"math"
	"testing"

	"loop.example/g01170/impl"
)

// lengths are those at which the blocks of eight samples end, and the limit.
func lengths() []int { return []int{0, 1, 2, 7, 8, 9, 15, 16, 17, 100, 255, 256} }

func TestChapter1SumsFromLeftToRight(t *testing.T) {
	for _, n := range lengths() {
		list := mixedSamples(n, n)
		var want float32
		for _, x := range list {
			want = float32(want + x)
		}
		got, ok := impl.SumNumbers(list)
		wantSum(t, "SumNumbers", got, ok, want)
	}
	got, ok := impl.SumNumbers([]float32{minus0, minus0})
	wantSum(t, "the sum begins with +0", got, ok, 0)
	got, ok = impl.SumNumbers([]float32{16777216, 1, 1, -16777216})
	wantSum(t, "each sum is rounded", got, ok, 0)
	got, ok = impl.SumNumbers([]float32{1, 1, 16777216, -16777216})
	wantSum(t, "the order counts", got, ok, 2)
	got, ok = impl.SumNumbers([]float32{infinity, -infinity})
	wantSum(t, "both infinities", got, ok, notANum)
	got, ok = impl.SumNumbers([]float32{largest, largest})
	wantSum(t, "out of range", got, ok, infinity)
	got, ok = impl.SumNumbers([]float32{tiny, tiny, tiny})
	wantSum(t, "sums are not flushed", got, ok, rawNumber(3))
	got, ok = impl.SumNumbers(nil)
	wantSum(t, "the sum of none", got, ok, 0)
}

func pairSum(list []float32) float32 {
	if len(list) == 0 {
		return 0
	}
	sums := list
	if len(sums) == 1 {
		return sums[0]
	}
	half := len(sums)/2 + len(sums)%2
	return pairSum(sums[:half]) + pairSum(sums[half:])
}

func TestChapter1SumsOfPairs(t *testing.T) {
	for _, n := range lengths() {
		list := mixedSamples(n+1000, n)
		got, ok := impl.SumPairs(list)
		wantSum(t, "SumPairs", got, ok, pairSum(list))
	}
	got, ok := impl.SumPairs([]float32{minus0})
	wantSum(t, "one number stays itself", got, ok, minus0)
	got, ok = impl.SumPairs([]float32{minus0, minus0, minus0})
	wantSum(t, "nothing is added to the zeros", got, ok, minus0)
	got, ok = impl.SumPairs([]float32{16777216, 1, 1})
	wantSum(t, "the first half has one more", got, ok, 16777216)
	got, ok = impl.SumPairs([]float32{1, 1, 16777216})
	wantSum(t, "the first half has both", got, ok, 16777218)
	got, ok = impl.SumPairs([]float32{16777216, 16777216, 1, 1, 1})
	wantSum(t, "three and two", got, ok, 33554432)
	got, ok = impl.SumPairs([]float32{})
	wantSum(t, "the sum of none", got, ok, 0)
}

func TestChapter1DotNumbers(t *testing.T) {
	for _, n := range lengths() {
		a, b := mixedSamples(n+1, n), mixedSamples(n+2, n)
		var narrow float32
		var wide float64
		for i := range a {
			// The products are exact in 64 bits, so that the conversion is their only rounding.
			product := float64(a[i]) * float64(b[i])
			narrow += float32(product)
			wide += product
		}
		got, ok := impl.DotNumbers(a, b)
		wantSum(t, "DotNumbers", got, ok, narrow)
		got, ok = impl.DotWide(a, b)
		wantSum(t, "DotWide", got, ok, float32(wide))
	}
}

func TestChapter1DotNumbersRoundsProducts(t *testing.T) {
	x := 1 + float32(1)/4096
	a, b := []float32{-(1 + float32(1)/2048), x}, []float32{1, x}
	got, ok := impl.DotNumbers(a, b)
	wantSum(t, "a product is rounded before it is added", got, ok, 0)
	got, ok = impl.DotWide(a, b)
	wantSum(t, "but not a wide one", got, ok, float32(math.Ldexp(1, -24)))
	got, ok = impl.DotWide([]float32{16777216, 1, 1}, []float32{1, 1, 1})
	wantSum(t, "wide sums are not narrowed on the way", got, ok, 16777218)
	got, ok = impl.DotWide([]float32{largest, -largest}, []float32{4, 4})
	wantSum(t, "wide sums are not out of range", got, ok, 0)
	got, ok = impl.DotWide([]float32{largest}, []float32{4})
	wantSum(t, "but narrowed in the end", got, ok, infinity)
	got, ok = impl.DotNumbers([]float32{largest, -largest}, []float32{4, 4})
	wantSum(t, "narrow ones are", got, ok, notANum)
	got, ok = impl.DotNumbers([]float32{minus0}, []float32{1})
	wantSum(t, "the sum begins with +0", got, ok, 0)
	got, ok = impl.DotWide([]float32{minus0}, []float32{1})
	wantSum(t, "the wide sum begins with +0", got, ok, 0)
	got, ok = impl.DotNumbers([]float32{infinity}, []float32{0})
	wantSum(t, "infinity times 0", got, ok, notANum)
}

func TestChapter1ScaleAndMix(t *testing.T) {
	for _, n := range lengths() {
		a, b := mixedSamples(n+3, n), mixedSamples(n+4, n)
		scaled, mixed := make([]float32, n), make([]float32, n)
		for i := range n {
			scaled[i], mixed[i] = a[i]*0.3, a[i]+b[i]
		}
		got, ok := impl.ScaleSamples(a, 0.3)
		wantSamples(t, "ScaleSamples", got, ok, scaled)
		got, ok = impl.MixSamples(a, b)
		wantSamples(t, "MixSamples", got, ok, mixed)
	}
	got, ok := impl.ScaleSamples([]float32{1, 0, minus0, tiny, -tiny, infinity, notANum}, -1)
	wantSamples(t, "signs", got, ok, []float32{-1, minus0, 0, -tiny, tiny, -infinity, notANum})
	got, ok = impl.ScaleSamples([]float32{1, 0, infinity}, infinity)
	wantSamples(t, "times infinity", got, ok, []float32{infinity, notANum, infinity})
	got, ok = impl.ScaleSamples([]float32{rawNumber(0x00800000), tiny}, 0.5)
	wantSamples(t, "products are not flushed", got, ok, []float32{rawNumber(0x00400000), 0})
	got, ok = impl.MixSamples([]float32{minus0, minus0, infinity, 1}, []float32{minus0, 0, -infinity, notANum})
	wantSamples(t, "sums of zeros", got, ok, []float32{minus0, 0, notANum, notANum})
}

func TestChapter1PeakOf(t *testing.T) {
	for _, c := range []struct {
		list []float32
		want float32
	}{
		{nil, 0},
		{[]float32{}, 0},
		{[]float32{minus0}, 0},
		{[]float32{1, -3, 2}, 3},
		{[]float32{-tiny}, tiny},
		{[]float32{notANum, 1, notANum, -2, notANum}, 2},
		{[]float32{notANum, -notANum}, 0},
		{[]float32{1, -infinity, notANum, 2}, infinity},
		{append(repeated(0, 255), -5), 5},
		{append([]float32{-7}, repeated(6, 255)...), 7},
	} {
		got, ok := impl.PeakOf(c.list)
		wantSum(t, "PeakOf", got, ok, c.want)
	}
}

func TestChapter1ListsOfTheGreatestLength(t *testing.T) {
	most := repeated(1, impl.MaxSamples)
	sum, ok := impl.SumNumbers(most)
	wantSum(t, "SumNumbers", sum, ok, 256)
	sum, ok = impl.SumPairs(most)
	wantSum(t, "SumPairs", sum, ok, 256)
	sum, ok = impl.DotNumbers(most, most)
	wantSum(t, "DotNumbers", sum, ok, 256)
	sum, ok = impl.DotWide(most, most)
	wantSum(t, "DotWide", sum, ok, 256)
	sum, ok = impl.PeakOf(most)
	wantSum(t, "PeakOf", sum, ok, 1)
	list, ok := impl.ScaleSamples(most, 2)
	wantSamples(t, "ScaleSamples", list, ok, repeated(2, 256))
	list, ok = impl.MixSamples(most, most)
	wantSamples(t, "MixSamples", list, ok, repeated(2, 256))
}

func TestChapter1ListsThatAreTooLongFail(t *testing.T) {
	for _, n := range []int{impl.MaxSamples + 1, 1000} {
		long := repeated(1, n)
		sum, ok := impl.SumNumbers(long)
		wantZero(t, "SumNumbers", sum, ok)
		sum, ok = impl.SumPairs(long)
		wantZero(t, "SumPairs", sum, ok)
		sum, ok = impl.DotNumbers(long, long)
		wantZero(t, "DotNumbers", sum, ok)
		sum, ok = impl.DotWide(long, long)
		wantZero(t, "DotWide", sum, ok)
		sum, ok = impl.PeakOf(long)
		wantZero(t, "PeakOf", sum, ok)
		list, ok := impl.ScaleSamples(long, 2)
		wantNoList(t, "ScaleSamples", list, ok)
		list, ok = impl.MixSamples(long, long)
		wantNoList(t, "MixSamples", list, ok)
	}
}

func TestChapter1ListsOfDifferentLengthsFail(t *testing.T) {
	for _, c := range [][2]int{{0, 1}, {1, 0}, {1, 2}, {256, 255}, {255, 256}, {256, 257}, {257, 256}} {
		a, b := repeated(1, c[0]), repeated(1, c[1])
		sum, ok := impl.DotNumbers(a, b)
		wantZero(t, "DotNumbers", sum, ok)
		sum, ok = impl.DotWide(a, b)
		wantZero(t, "DotWide", sum, ok)
		list, ok := impl.MixSamples(a, b)
		wantNoList(t, "MixSamples", list, ok)
	}
}
