package tests

import (
	"math"
	"slices"
	"testing"

	"loop.example/g01170/impl"
)

// plainFold does what the document tells of taps, apart from the program.
func plainFold(taps, last, x []float32) ([]float32, []float32) {
	kept := slices.Clone(last)
	var sums []float32
	for _, sample := range x {
		kept = append(kept, sample)
		var sum float32
		for k, tap := range taps {
			sum = plus(sum, times(tap, kept[len(kept)-1-k]))
		}
		sums = append(sums, sum)
	}
	return sums, kept[len(kept)-len(last):]
}

func plainSpread(factor int64, x []float32) []float32 {
	var spread []float32
	for _, sample := range x {
		spread = append(spread, sample)
		spread = append(spread, make([]float32, factor-1)...)
	}
	return spread
}

func plainPick(factor, first int64, x []float32) []float32 {
	var picked []float32
	for i, sample := range x {
		if int64(i) >= first && (int64(i)-first)%factor == 0 {
			picked = append(picked, sample)
		}
	}
	return picked
}

func wantFold(t *testing.T, what string, taps, last, x, want, end []float32) {
	t.Helper()
	got, kept, ok := impl.FoldTaps(taps, last, x)
	wantSamples(t, what, got, ok, want)
	wantSamples(t, what+", the last samples", kept, ok, end)
}

func wantSpread(t *testing.T, what string, factor int64, x, want []float32) {
	t.Helper()
	got, ok := impl.SpreadBy(factor, x)
	wantSamples(t, what, got, ok, want)
}

func wantPicked(t *testing.T, what string, factor, first int64, x, want []float32) {
	t.Helper()
	got, ok := impl.PickBy(factor, first, x)
	wantSamples(t, what, got, ok, want)
}

func wantRaised(t *testing.T, what string, factor int64, taps, x, want []float32) {
	t.Helper()
	got, ok := impl.RaiseBy(factor, taps, x)
	wantSamples(t, what, got, ok, want)
}

func wantLowered(t *testing.T, what string, factor int64, taps, x, want []float32) {
	t.Helper()
	got, ok := impl.LowerBy(factor, taps, x)
	wantSamples(t, what, got, ok, want)
}

func factors() []int64 { return []int64{1, 2, 3, 4, 5, 6, 7, 8} }

func wrongFactors() []int64 {
	return []int64{0, -1, 9, -8, 100, 1 << 32, 1<<32 + 1, math.MinInt64, math.MaxInt64}
}

func TestChapter6FoldsByHand(t *testing.T) {
	wantFold(t, "two taps", []float32{0.5, 0.25}, []float32{4}, []float32{2, 8}, []float32{2, 4.5}, []float32{8})
	wantFold(t, "the newest of the last samples first", []float32{1, 10, 100}, []float32{3, 4}, []float32{5, 6}, []float32{345, 456}, []float32{5, 6})
	wantFold(t, "fewer samples than last ones", []float32{1, 10, 100, 1000}, []float32{2, 3, 4}, []float32{5}, []float32{2345}, []float32{3, 4, 5})
	wantFold(t, "no samples", []float32{1, 10, 100}, []float32{3, 4}, nil, nil, []float32{3, 4})
	wantFold(t, "one tap", []float32{3}, nil, []float32{1, 2}, []float32{3, 6}, nil)
	wantFold(t, "one tap, no samples", []float32{3}, nil, nil, nil, nil)
	wantFold(t, "the last tap", []float32{0, 0, 1}, []float32{7, 8}, []float32{1, 2, 3}, []float32{7, 8, 1}, []float32{2, 3})
}

func TestChapter6FoldsOfEdges(t *testing.T) {
	wantFold(t, "sums begin with +0", []float32{1}, nil, []float32{minus0}, []float32{0}, nil)
	wantFold(t, "zeros with signs", []float32{1, 1}, []float32{minus0}, []float32{minus0}, []float32{0}, []float32{minus0})
	wantFold(t, "no product is left out", []float32{1, 0}, []float32{infinity}, []float32{1, 2}, []float32{notANum, 2}, []float32{2})
	wantFold(t, "infinities", []float32{1, 1}, []float32{infinity}, []float32{-infinity, 1}, []float32{notANum, -infinity}, []float32{1})
	wantFold(t, "not-a-numbers", []float32{1, 2}, []float32{0}, []float32{notANum, 1, 2}, []float32{notANum, notANum, 4}, []float32{2})
	wantFold(t, "a tap that is one", []float32{0, notANum}, []float32{1}, []float32{1}, []float32{notANum}, []float32{1})
	wantFold(t, "subnormal numbers", []float32{0.5, 0.5}, []float32{tiny}, []float32{3 * tiny, 0}, []float32{2 * tiny, 2 * tiny}, []float32{0})
	wantFold(t, "out of range", []float32{1, 1, -1}, []float32{largest, largest}, []float32{largest}, []float32{infinity}, []float32{largest, largest})
	wantFold(t, "sums in the order of the taps", []float32{1, 1, 1}, []float32{-0x1p24, 0x1p24}, []float32{1}, []float32{1 - 1}, []float32{0x1p24, 1})
}

func TestChapter6ProductsOfFoldsAreRoundedOnTheirOwn(t *testing.T) {
	x := 1 + float32(1)/4096
	square := 1 + float32(1)/2048 // The product of x and x is this and 2^-24, which is rounded away.
	wantFold(t, "a product", []float32{-1, x}, []float32{x}, []float32{square}, []float32{0}, []float32{square})
}

func TestChapter6FoldsAreThoseOfTheDocument(t *testing.T) {
	for style := range styles {
		for count := 1; count <= 32; count++ {
			for i, n := range []int{0, 1, count - 2, count - 1, count, count + 1, 100, 255, 256} {
				seed := 1000*style + 20*count + i
				taps, last, x := samplesOfStyle(style, seed, count), samplesOfStyle(style, seed+1, count-1), samplesOfStyle(style, seed+2, max(n, 0))
				want, end := plainFold(taps, last, x)
				wantFold(t, "a fold", taps, last, x, want, end)
			}
		}
	}
}

func TestChapter6FoldsGoOn(t *testing.T) {
	for style := range styles {
		for i, count := range []int{1, 2, 3, 8, 31, 32} {
			taps := samplesOfStyle(style, 960+i, count)
			s := onOneLine("a fold", samplesOfStyle(style, 970+i, count-1), func(line []float32, before int, x []float32) ([]float32, []float32, bool) {
				return impl.FoldTaps(taps, line, x)
			})
			wantCutAnywhere(t, s, samplesOfStyle(style, 980+i, 256))
			wantCutIntoBlocks(t, s, samplesOfStyle(style, 990+i, 256))
		}
	}
}

func wantNoFold(t *testing.T, what string, taps, last, x []float32) {
	t.Helper()
	sums, kept, ok := impl.FoldTaps(taps, last, x)
	wantNoList(t, what, sums, ok)
	wantNoList(t, what, kept, ok)
}

func TestChapter6WrongFolds(t *testing.T) {
	for _, x := range [][]float32{nil, {1, 2}, make([]float32, 256)} {
		for _, last := range []int{0, 1, 30, 31, 32, 33, 256} {
			wantNoFold(t, "no taps", nil, make([]float32, last), x)
			wantNoFold(t, "no taps", []float32{}, make([]float32, last), x)
			for _, wrong := range []int{33, 34, 257, 1000} {
				wantNoFold(t, "too many taps", make([]float32, wrong), make([]float32, last), x)
			}
		}
		for _, wrong := range []int{33, 34, 257, 1000} {
			wantNoFold(t, "too many taps", make([]float32, wrong), make([]float32, wrong-1), x)
		}
		for _, count := range []int{1, 2, 3, 31, 32} {
			for _, last := range []int{0, count - 2, count, count + 1, 64, 256} {
				if last >= 0 && last != count-1 {
					wantNoFold(t, "too few or too many last samples", make([]float32, count), make([]float32, last), x)
				}
			}
		}
	}
	for _, count := range []int{1, 32} {
		for _, wrong := range []int{257, 1000} {
			wantNoFold(t, "too many samples", make([]float32, count), make([]float32, count-1), make([]float32, wrong))
		}
	}
}

func TestChapter6SpreadByHand(t *testing.T) {
	wantSpread(t, "three", 3, []float32{1, 2}, []float32{1, 0, 0, 2, 0, 0})
	wantSpread(t, "one", 1, []float32{1, minus0, notANum}, []float32{1, minus0, notANum})
	wantSpread(t, "eight", 8, []float32{5}, []float32{5, 0, 0, 0, 0, 0, 0, 0})
	wantSpread(t, "edges", 2, []float32{minus0, -infinity, notANum, tiny}, []float32{minus0, 0, -infinity, 0, notANum, 0, tiny, 0})
	for _, factor := range factors() {
		wantSpread(t, "no samples", factor, nil, nil)
	}
}

func TestChapter6SpreadIsThatOfTheDocument(t *testing.T) {
	for _, factor := range factors() {
		most := 256 / int(factor)
		for count := range most + 1 {
			x := samplesOfStyle(3, 1000+count, count)
			wantSpread(t, "a factor", factor, x, plainSpread(factor, x))
		}
		for _, wrong := range []int{most + 1, most + 2, 257, 1000, 100000} {
			got, ok := impl.SpreadBy(factor, make([]float32, wrong))
			wantNoList(t, "too many samples", got, ok)
		}
	}
}

func TestChapter6PickedByHand(t *testing.T) {
	x := []float32{0, 1, 2, 3, 4, 5, 6}
	wantPicked(t, "the first of two", 2, 0, x, []float32{0, 2, 4, 6})
	wantPicked(t, "the second of two", 2, 1, x, []float32{1, 3, 5})
	wantPicked(t, "the third of three", 3, 2, x, []float32{2, 5})
	wantPicked(t, "all of them", 1, 0, x, x)
	wantPicked(t, "the last of seven", 7, 6, x, []float32{6})
	wantPicked(t, "the eighth of seven", 8, 7, x, nil)
	wantPicked(t, "any bits", 2, 1, []float32{1, minus0, 1, notANum, 1, tiny}, []float32{minus0, notANum, tiny})
	for _, factor := range factors() {
		for first := range factor {
			wantPicked(t, "no samples", factor, first, nil, nil)
		}
	}
}

func TestChapter6PickedAreThoseOfTheDocument(t *testing.T) {
	for _, factor := range factors() {
		for first := range factor {
			for _, count := range append(lengths(), 3, 5, 6, 254) {
				x := samplesOfStyle(3, 1100+count, count)
				wantPicked(t, "a factor", factor, first, x, plainPick(factor, first, x))
			}
		}
	}
}

func TestChapter6WrongFactors(t *testing.T) {
	for _, x := range [][]float32{nil, {1, 2, 3}, make([]float32, 32)} {
		for _, wrong := range wrongFactors() {
			got, ok := impl.SpreadBy(wrong, x)
			wantNoList(t, "SpreadBy", got, ok)
			for _, first := range []int64{0, 1, -1, wrong - 1, wrong} {
				got, ok := impl.PickBy(wrong, first, x)
				wantNoList(t, "PickBy", got, ok)
			}
			got, ok = impl.RaiseBy(wrong, []float32{1}, x)
			wantNoList(t, "RaiseBy", got, ok)
			got, ok = impl.LowerBy(wrong, []float32{1}, x)
			wantNoList(t, "LowerBy", got, ok)
		}
		for _, factor := range factors() {
			for _, first := range []int64{-1, factor, factor + 1, -factor, 1 << 32, math.MinInt64, math.MaxInt64} {
				got, ok := impl.PickBy(factor, first, x)
				wantNoList(t, "a wrong first one", got, ok)
			}
		}
	}
	for _, factor := range factors() {
		for _, wrong := range []int{257, 1000, 100000} {
			got, ok := impl.PickBy(factor, factor-1, make([]float32, wrong))
			wantNoList(t, "too many samples", got, ok)
		}
	}
}

func TestChapter6RaisedAndLoweredByHand(t *testing.T) {
	wantRaised(t, "twice as many", 2, []float32{0.5, 1, 0.5}, []float32{2, 4}, []float32{1, 2, 3, 4})
	wantRaised(t, "held", 4, []float32{1, 1, 1, 1}, []float32{3, 5}, []float32{3, 3, 3, 3, 5, 5, 5, 5})
	wantRaised(t, "one", 1, []float32{1, 10}, []float32{1, 2, 3}, []float32{1, 12, 23})
	wantRaised(t, "an infinity", 2, []float32{1, 0}, []float32{infinity, 1}, []float32{infinity, notANum, 1, 0})
	wantLowered(t, "half as many", 2, []float32{0.5, 0.5}, []float32{2, 4, 6, 8}, []float32{1, 5})
	wantLowered(t, "a third", 3, []float32{1, 10, 100}, []float32{1, 2, 3, 4, 5, 6, 7}, []float32{1, 234, 567})
	wantLowered(t, "one", 1, []float32{1, 10}, []float32{1, 2, 3}, []float32{1, 12, 23})
	wantLowered(t, "zeros", 2, []float32{1}, []float32{minus0, 1, minus0}, []float32{0, 0})
	for _, factor := range factors() {
		wantRaised(t, "no samples", factor, []float32{1, 2}, nil, nil)
		wantLowered(t, "no samples", factor, []float32{1, 2}, nil, nil)
	}
}

func TestChapter6RaisedAndLoweredAreThoseOfTheDocument(t *testing.T) {
	for style := range styles {
		for _, factor := range factors() {
			for i, count := range []int{1, 2, 7, 8, 9, 31, 32} {
				taps, zeros := samplesOfStyle(style, 1200+i, count), make([]float32, count-1)
				for _, n := range []int{0, 1, 5, 20, 256 / int(factor)} {
					x := samplesOfStyle(style, 1210+n, n)
					want, _ := plainFold(taps, zeros, plainSpread(factor, x))
					wantRaised(t, "raised", factor, taps, x, want)
				}
				for _, n := range []int{0, 1, 5, 100, 255, 256} {
					x := samplesOfStyle(style, 1220+n, n)
					want, _ := plainFold(taps, zeros, x)
					wantLowered(t, "lowered", factor, taps, x, plainPick(factor, 0, want))
				}
			}
		}
	}
}

func TestChapter6NeitherRaisedNorLowered(t *testing.T) {
	for _, factor := range factors() {
		for _, x := range [][]float32{nil, {1, 2, 3}} {
			for _, wrong := range []int{0, 33, 34, 257, 1000} {
				got, ok := impl.RaiseBy(factor, make([]float32, wrong), x)
				wantNoList(t, "RaiseBy", got, ok)
				got, ok = impl.LowerBy(factor, make([]float32, wrong), x)
				wantNoList(t, "LowerBy", got, ok)
			}
			got, ok := impl.RaiseBy(factor, nil, x)
			wantNoList(t, "RaiseBy without taps", got, ok)
			got, ok = impl.LowerBy(factor, nil, x)
			wantNoList(t, "LowerBy without taps", got, ok)
		}
		most := 256 / int(factor)
		for _, wrong := range []int{most + 1, 257, 1000} {
			got, ok := impl.RaiseBy(factor, []float32{1}, make([]float32, wrong))
			wantNoList(t, "too many samples to raise", got, ok)
		}
		for _, wrong := range []int{257, 1000} {
			got, ok := impl.LowerBy(factor, []float32{1}, make([]float32, wrong))
			wantNoList(t, "too many samples to lower", got, ok)
		}
	}
}
