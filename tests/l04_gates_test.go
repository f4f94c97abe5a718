package tests

import (
	"math"
	"testing"

	"loop.example/g01170/impl"
)

// plainGate does what the document tells of gates, apart from the program.
func plainGate(samples []float32, threshold float32, hold, held int64) ([]float32, int64) {
	var results []float32
	for _, x := range samples {
		loud, open := plainSize(x) >= threshold, held > 0
		if loud {
			held = hold
		} else if open {
			held--
		}
		if !loud && !open {
			x = 0
		}
		results = append(results, x)
	}
	return results, held
}

func wantGate(t *testing.T, what string, samples []float32, threshold float32, hold, held int64, want []float32, last int64) {
	t.Helper()
	got, end, ok := impl.RunGate(samples, threshold, hold, held)
	wantSamples(t, what, got, ok, want)
	if end != last {
		t.Errorf("%s: held for %d samples more, want %d", what, end, last)
	}
}

func TestChapter4GatesByHand(t *testing.T) {
	x := []float32{0.25, 1, 0.25, 0.25, 0.25}
	wantGate(t, "held for 2 samples", x, 0.5, 2, 0, []float32{0, 1, 0.25, 0.25, 0}, 0)
	wantGate(t, "held at first", x, 0.5, 2, 1, []float32{0.25, 1, 0.25, 0.25, 0}, 0)
	wantGate(t, "held to the end", x, 0.5, 4, 0, []float32{0, 1, 0.25, 0.25, 0.25}, 1)
	wantGate(t, "not held", x, 0.5, 0, 0, []float32{0, 1, 0, 0, 0}, 0)
	wantGate(t, "held less than hold", []float32{0.25, 0.25}, 0.5, 7, 1, []float32{0.25, 0}, 0)
	wantGate(t, "held as long as hold", []float32{0.25, 0.25}, 0.5, 7, 7, []float32{0.25, 0.25}, 5)
	wantGate(t, "no samples", nil, 0.5, 7, 3, nil, 3)
	wantGate(t, "a loud sample holds from itself on", []float32{1, 0.25, -1, 0.25}, 0.5, 1, 0, []float32{1, 0.25, -1, 0.25}, 0)
	wantGate(t, "sizes equal to the threshold", []float32{0.5, -0.5, 0.5 - 0x1p-25, -0.5 + 0x1p-25}, 0.5, 0, 0, []float32{0.5, -0.5, 0, 0}, 0)
}

func TestChapter4GatesReplaceByPlusZero(t *testing.T) {
	wantGate(t, "closed", []float32{-0.25, minus0, 0, tiny, -tiny, notANum}, 0.5, 0, 0, make([]float32, 6), 0)
	wantGate(t, "held", []float32{-0.25, minus0, notANum, -tiny}, 0.5, 4, 4, []float32{-0.25, minus0, notANum, -tiny}, 0)
}

func TestChapter4GatesWithAnyThreshold(t *testing.T) {
	x := []float32{1, minus0, tiny, -infinity, 0}
	for _, threshold := range []float32{0, minus0, -tiny, -1, -infinity} {
		wantGate(t, "at most 0", x, threshold, 3, 0, x, 3)
	}
	wantGate(t, "the least number", x, tiny, 0, 0, []float32{1, 0, tiny, -infinity, 0}, 0)
	wantGate(t, "infinity", x, infinity, 0, 0, []float32{0, 0, 0, -infinity, 0}, 0)
	wantGate(t, "a not-a-number", x, notANum, 3, 2, []float32{1, minus0, 0, 0, 0}, 0)
	wantGate(t, "not-a-numbers are not loud", []float32{notANum, -infinity, notANum}, -infinity, 1, 0, []float32{0, -infinity, notANum}, 0)
}

func TestChapter4GatesKeepBits(t *testing.T) {
	x := append(edgeNumbers(), samplesOfStyle(3, 670, 200)...)
	got, _, ok := impl.RunGate(x, infinity, 10000, 10000)
	if !ok || !sameBits(got, x) {
		t.Error("samples behind an open gate are not what they were")
	}
}

func TestChapter4GatesHeldLongest(t *testing.T) {
	x := repeated(-0.25, 256)
	wantGate(t, "held at first", x, 0.5, 10000, 10000, x, 9744)
	wantGate(t, "held at first for 256 samples", x, 0.5, 10000, 256, x, 0)
	wantGate(t, "held for one sample less", x, 0.5, 10000, 255, append(repeated(-0.25, 255), 0), 0)
	x[0] = 1
	wantGate(t, "held behind one sample", x, 0.5, 10000, 0, x, 9745)
}

func TestChapter4GatesAreThoseOfTheDocument(t *testing.T) {
	for style := range styles {
		for i, n := range lengths() {
			for k, hold := range []int64{0, 1, 2, 5, 100, 9999, 10000} {
				x, threshold := samplesOfStyle(style, 680+i, n), plainSize(samplesOfStyle(style, 690+8*i+k, 1)[0])
				for _, held := range []int64{0, hold / 2, hold} {
					want, last := plainGate(x, threshold, hold, held)
					wantGate(t, "a gate", x, threshold, hold, held, want, last)
				}
			}
		}
	}
}

func wantNoGate(t *testing.T, what string, samples []float32, hold, held int64) {
	t.Helper()
	got, last, ok := impl.RunGate(samples, 0, hold, held)
	wantNoList(t, what, got, ok)
	wantZero(t, what, last, ok)
}

func TestChapter4WrongGates(t *testing.T) {
	for _, x := range [][]float32{nil, {1}} {
		for _, hold := range []int64{-1, 10001, 1 << 32, math.MinInt64, math.MaxInt64} {
			for _, held := range []int64{0, 1, hold, -1} {
				wantNoGate(t, "a wrong hold", x, hold, held)
			}
		}
		for _, hold := range []int64{0, 1, 2, 10000} {
			for _, held := range []int64{-1, hold + 1, 1<<32 + hold, math.MinInt64, math.MaxInt64} {
				wantNoGate(t, "held wrongly", x, hold, held)
			}
		}
	}
	for _, n := range []int{257, 1000} {
		wantNoGate(t, "too many samples", make([]float32, n), 2, 1)
	}
}
