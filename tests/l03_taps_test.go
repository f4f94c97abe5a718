package tests

import (
	"math"
	"slices"
	"testing"

	"loop.example/g01170/impl"
)

// plainTaps looks back in a list of the past and all samples, apart from the program.
func plainTaps(taps []impl.Tap, past, x []float32) ([]float32, []float32) {
	all := slices.Concat(past, x)
	results := make([]float32, len(x))
	for i := range x {
		for _, tap := range taps {
			results[i] = plus(results[i], times(tap.Gain, all[64+i-int(tap.Back)]))
		}
	}
	return results, all[len(x):]
}

func plainChorus(table []int64, mix float32, line []float32, from int64, x []float32) ([]float32, []float32) {
	all := slices.Concat(line, x)
	results := make([]float32, len(x))
	for i := range x {
		k := table[(from+int64(i))%int64(len(table))]
		results[i] = plus(x[i], times(mix, all[len(line)+i-int(k)]))
	}
	return results, all[len(x):]
}

func wantTaps(t *testing.T, what string, taps []impl.Tap, past, x, want, last []float32) {
	t.Helper()
	got, kept, ok := impl.RunTaps(taps, past, x)
	wantSamples(t, what, got, ok, want)
	wantSamples(t, what+", the past", kept, ok, last)
}

func wantChorus(t *testing.T, what string, table []int64, mix float32, line []float32, from int64, x, want, last []float32) {
	t.Helper()
	got, kept, ok := impl.RunChorus(table, mix, line, from, x)
	wantSamples(t, what, got, ok, want)
	wantSamples(t, what+", the line", kept, ok, last)
}

// counted are the past -64, -63 and so on to -1.
func counted() []float32 {
	past := make([]float32, 64)
	for i := range past {
		past[i] = float32(i - 64)
	}
	return past
}

func tapsOfStyle(style, seed, count int) []impl.Tap {
	taps := make([]impl.Tap, count)
	for i, gain := range gainsOfStyle(style, seed, count) {
		taps[i] = impl.Tap{Back: int64(mixedBits(seed, i) % 65), Gain: gain}
		switch mixedBits(seed, 100+i) % 4 {
		case 0:
			taps[i].Back = 0
		case 1:
			taps[i].Back = 64
		}
	}
	return taps
}

func TestChapter3ValidTaps(t *testing.T) {
	for count := range 12 {
		for back := int64(0); back <= 64; back++ {
			taps := slices.Repeat([]impl.Tap{{Back: back, Gain: notANum}}, count)
			if impl.ValidTaps(taps) != (count <= 8) {
				t.Errorf("%d taps: %v", count, count > 8)
			}
		}
	}
	for _, back := range []int64{-1, 65, math.MinInt64, math.MaxInt64, 1 << 32, -1 << 32} {
		for i := range 8 {
			taps := make([]impl.Tap, 8)
			taps[i].Back = back
			if impl.ValidTaps(taps) || impl.ValidTaps(taps[i:i+1]) {
				t.Errorf("a tap %d back is valid", back)
			}
		}
	}
	for _, gain := range edgeNumbers() {
		if !impl.ValidTaps([]impl.Tap{{Back: 0, Gain: gain}, {Back: 64, Gain: gain}}) {
			t.Errorf("taps with the gain %v are not valid", gain)
		}
	}
	if !impl.ValidTaps(nil) || !impl.ValidTaps([]impl.Tap{}) {
		t.Error("no taps are not valid")
	}
}

func TestChapter3TapsByHand(t *testing.T) {
	past := counted()
	wantTaps(t, "the sample itself", []impl.Tap{{Back: 0, Gain: 1}}, past, []float32{5, 6}, []float32{5, 6}, append(counted()[2:], 5, 6))
	wantTaps(t, "one sample before", []impl.Tap{{Back: 1, Gain: 1}}, past, []float32{5, 6, 7}, []float32{-1, 5, 6}, append(counted()[3:], 5, 6, 7))
	wantTaps(t, "the oldest number", []impl.Tap{{Back: 64, Gain: 1}}, past, []float32{5, 6}, []float32{-64, -63}, append(counted()[2:], 5, 6))
	wantTaps(t, "two taps", []impl.Tap{{Back: 0, Gain: 1}, {Back: 1, Gain: 0.5}}, make([]float32, 64), []float32{2, 4}, []float32{2, 5}, append(make([]float32, 62), 2, 4))
	wantTaps(t, "the same tap twice", []impl.Tap{{Back: 2, Gain: 2}, {Back: 2, Gain: 3}}, past, []float32{5}, []float32{-10}, append(counted()[1:], 5))
	wantTaps(t, "no taps", nil, past, []float32{5, -6}, []float32{0, 0}, append(counted()[2:], 5, -6))
	wantTaps(t, "no samples", []impl.Tap{{Back: 0, Gain: 1}, {Back: 64, Gain: 2}}, past, nil, nil, counted())
	x := mixedSamples(3, 256)
	wantTaps(t, "all of the past is new", []impl.Tap{{Back: 64, Gain: 1}}, past, x, slices.Concat(counted(), x[:192]), x[192:])
}

func TestChapter3TapsAreAddedInOrder(t *testing.T) {
	const big = 16777216
	past := append(make([]float32, 62), 1, big)
	last := append(make([]float32, 61), 1, big, 1)
	wantTaps(t, "the big one first", []impl.Tap{{Back: 1, Gain: 1}, {Back: 0, Gain: 1}, {Back: 2, Gain: 1}}, past, []float32{1}, []float32{big}, last)
	wantTaps(t, "the big one last", []impl.Tap{{Back: 0, Gain: 1}, {Back: 2, Gain: 1}, {Back: 1, Gain: 1}}, past, []float32{1}, []float32{big + 2}, last)
	wantTaps(t, "the result begins with +0", []impl.Tap{{Back: 0, Gain: 1}}, make([]float32, 64), []float32{minus0}, []float32{0}, append(make([]float32, 63), minus0))
	wantTaps(t, "no product is left out", []impl.Tap{{Back: 0, Gain: 0}, {Back: 0, Gain: 1}}, make([]float32, 64), []float32{infinity}, []float32{notANum}, append(make([]float32, 63), infinity))
	wantTaps(t, "nothing is flushed", []impl.Tap{{Back: 0, Gain: 1}}, make([]float32, 64), []float32{tiny}, []float32{tiny}, append(make([]float32, 63), tiny))
}

func TestChapter3ProductsOfTapsAreRoundedOnTheirOwn(t *testing.T) {
	x := 1 + float32(1)/4096
	square := 1 + float32(1)/2048
	past := append(make([]float32, 63), square)
	wantTaps(t, "the gain", []impl.Tap{{Back: 1, Gain: -1}, {Back: 0, Gain: x}}, past, []float32{x}, []float32{0}, append(make([]float32, 62), square, x))
	wantChorus(t, "the mix", []int64{1}, x, []float32{x}, 0, []float32{-square}, []float32{0}, []float32{-square})
}

func TestChapter3TapsAreThoseOfTheDocument(t *testing.T) {
	for count := range 9 {
		for _, n := range []int{0, 1, 63, 64, 65, 130, 255, 256} {
			for style := range styles {
				seed := 1000*count + 10*n + style
				taps, past, x := tapsOfStyle(style, seed, count), samplesOfStyle(style, seed+1, 64), samplesOfStyle(style, seed+2, n)
				want, last := plainTaps(taps, past, x)
				wantTaps(t, "taps", taps, past, x, want, last)
			}
		}
	}
	for back := int64(0); back <= 64; back++ {
		taps, x := []impl.Tap{{Back: back, Gain: 0.3}}, mixedSamples(5, 200)
		want, last := plainTaps(taps, counted(), x)
		wantTaps(t, "one tap", taps, counted(), x, want, last)
	}
}

func wantNoTaps(t *testing.T, what string, taps []impl.Tap, past, x []float32) {
	t.Helper()
	results, last, ok := impl.RunTaps(taps, past, x)
	wantNoList(t, what, results, ok)
	wantNoList(t, what, last, ok)
}

func TestChapter3WrongTaps(t *testing.T) {
	for _, x := range [][]float32{nil, {1, 2}, make([]float32, 256)} {
		for _, n := range []int{0, 1, 63, 65, 128, 1000} {
			wantNoTaps(t, "a wrong past", nil, make([]float32, n), x)
			wantNoTaps(t, "a wrong past", []impl.Tap{{Back: 0, Gain: 1}}, make([]float32, n), x)
		}
		wantNoTaps(t, "no past", nil, nil, x)
		wantNoTaps(t, "too many taps", make([]impl.Tap, 9), counted(), x)
		for _, back := range []int64{-1, 65, math.MinInt64, math.MaxInt64} {
			wantNoTaps(t, "a wrong tap", []impl.Tap{{Back: 1, Gain: 1}, {Back: back, Gain: 1}}, counted(), x)
		}
	}
	wantNoTaps(t, "too many samples", []impl.Tap{{Back: 0, Gain: 1}}, counted(), make([]float32, 257))
	wantNoTaps(t, "too many samples", nil, counted(), make([]float32, 257))
}

func TestChapter3ChorusByHand(t *testing.T) {
	wantChorus(t, "two numbers", []int64{1, 2}, 1, []float32{10, 20}, 0, []float32{1, 2, 3}, []float32{21, 22, 5}, []float32{2, 3})
	wantChorus(t, "from 1 on", []int64{1, 2}, 1, []float32{10, 20}, 1, []float32{1, 2, 3}, []float32{11, 3, 4}, []float32{2, 3})
	line := []float32{10, 20, 30}
	wantChorus(t, "the newest number", []int64{1}, 2, line, 5, []float32{1, 2}, []float32{61, 4}, []float32{30, 1, 2})
	wantChorus(t, "the oldest number", []int64{3}, 2, line, 5, []float32{1, 2}, []float32{21, 42}, []float32{30, 1, 2})
	wantChorus(t, "the last place", []int64{1, 1, 1, 1, 3, 1, 2}, 1, line, impl.MaxValue, []float32{1, 2, 3}, []float32{21, 3, 5}, []float32{1, 2, 3})
	wantChorus(t, "a table that is longer than the line", []int64{1, 1, 1, 1}, 1, []float32{7}, 2, []float32{1, 2, 3}, []float32{8, 3, 5}, []float32{3})
	wantChorus(t, "no samples", []int64{3, 1}, 1, line, 9, nil, nil, line)
	wantChorus(t, "x alone is taken", []int64{1}, 5, []float32{1}, 0, []float32{minus0}, []float32{5}, []float32{minus0})
	wantChorus(t, "nothing is flushed", []int64{1}, 1, []float32{tiny}, 0, []float32{tiny, 0}, []float32{rawNumber(2), tiny}, []float32{0})
	wantChorus(t, "no product is left out", []int64{1}, 0, []float32{infinity}, 0, []float32{1, minus0}, []float32{notANum, 0}, []float32{minus0})
}

func tableOfStyle(seed, count, length int) []int64 {
	table := make([]int64, count)
	for i := range table {
		table[i] = int64(1 + mixedBits(seed, 200+i)%uint32(length))
	}
	return table
}

func TestChapter3ChorusIsThatOfTheDocument(t *testing.T) {
	for _, length := range []int{1, 2, 3, 31, 63, 64} {
		for _, count := range []int{1, 2, 3, 7, 63, 64} {
			for i, n := range []int{0, 1, 64, 65, 256} {
				for style := range styles {
					seed := 100*length + 10*count + style
					line, x := samplesOfStyle(style, seed, length), samplesOfStyle(style, seed+1, n)
					table, mix := tableOfStyle(seed, count, length), gainsOfStyle(style, seed+2, 1)[0]
					from := []int64{0, impl.MaxValue, 1, impl.MaxValue - 1, int64(mixedBits(seed, 7))}[(i+style)%5]
					want, last := plainChorus(table, mix, line, from, x)
					wantChorus(t, "a chorus", table, mix, line, from, x, want, last)
				}
			}
		}
	}
}

func TestChapter3TapsAndChorusComputedApart(t *testing.T) {
	past, x := mixedSamples(320, 64), mixedSamples(321, 256)
	taps := []impl.Tap{{Back: 0, Gain: 0.9}, {Back: 64, Gain: -0.8}, {Back: 1, Gain: 0.7}, {Back: 33, Gain: 0.6}, {Back: 33, Gain: -0.5}, {Back: 2, Gain: 0.4}, {Back: 63, Gain: 0.3}, {Back: 0, Gain: 0.2}}
	results, last, ok := impl.RunTaps(taps, past, x)
	if first, second := checkOfSamples(t, results), checkOfSamples(t, last); !ok || first != 37801 || second != 63170 {
		t.Errorf("taps: %d and %d", first, second)
	}
	table := []int64{40, 41, 3, 1, 2, 39, 7}
	results, last, ok = impl.RunChorus(table, 0.7, past[:41], 999999999999999, x)
	if first, second := checkOfSamples(t, results), checkOfSamples(t, last); !ok || first != 37050 || second != 27453 {
		t.Errorf("a chorus: %d and %d", first, second)
	}
}

func wantNoChorus(t *testing.T, what string, table []int64, line []float32, from int64, x []float32) {
	t.Helper()
	results, last, ok := impl.RunChorus(table, 1, line, from, x)
	wantNoList(t, what, results, ok)
	wantNoList(t, what, last, ok)
}

func TestChapter3WrongChoruses(t *testing.T) {
	line := make([]float32, 5)
	for _, x := range [][]float32{nil, {1, 2}} {
		for _, k := range []int64{0, -1, 6, 64, math.MinInt64, math.MaxInt64, 1<<32 + 1} {
			wantNoChorus(t, "a wrong number", []int64{k}, line, 0, x)
			wantNoChorus(t, "a wrong number that is not reached", []int64{1, 2, 3, k}, line, 0, x)
		}
		for _, n := range []int{0, 65, 256, 1000} {
			wantNoChorus(t, "a wrong line", []int64{1}, make([]float32, n), 0, x)
			wantNoChorus(t, "a wrong table", slices.Repeat([]int64{1}, n), line, 0, x)
		}
		wantNoChorus(t, "no line", []int64{1}, nil, 0, x)
		wantNoChorus(t, "no table", nil, line, 0, x)
		wantNoChorus(t, "neither", nil, nil, 0, x)
		for _, from := range []int64{-1, impl.MaxValue + 1, math.MinInt64, math.MaxInt64} {
			wantNoChorus(t, "a wrong place", []int64{1}, line, from, x)
		}
	}
	wantNoChorus(t, "too many samples", []int64{1}, line, 0, make([]float32, 257))
}
