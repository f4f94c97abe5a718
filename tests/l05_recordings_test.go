package tests

import (
	"math"
	"slices"
	"testing"

	"loop.example/g01170/impl"
)

// one is how many steps of a place make one sample.
const one = 65536

func plainBetween(a, b float32, place int64) float32 {
	if place%one == 0 {
		return a
	}
	return plus(a, times(plus(b, -a), over(float32(place%one), one)))
}

// plainPlay does what the document tells of recordings, apart from the program.
func plainPlay(recording []float32, from, step int64, count int) ([]float32, int64) {
	padded := append(slices.Clone(recording), make([]float32, 3000)...)
	results := make([]float32, count)
	for i := range results {
		place := from + int64(i)*step
		results[i] = plainBetween(padded[place/one], padded[place/one+1], place)
	}
	return results, from + int64(count)*step
}

func plainLoop(recording []float32, first, behind, from, step int64, count int) ([]float32, int64) {
	round := append(slices.Clone(recording[:behind]), recording[first])
	var results []float32
	place := from
	for i := 0; ; i++ {
		for place >= one*behind {
			place -= one * (behind - first)
		}
		if i == count {
			return results, place
		}
		results = append(results, plainBetween(round[place/one], round[place/one+1], place))
		place += step
	}
}

func wantPlace(t *testing.T, what string, got, want int64) {
	t.Helper()
	if got != want {
		t.Errorf("%s: the place is %d, want %d", what, got, want)
	}
}

func wantPlayed(t *testing.T, what string, recording []float32, from, step int64, want []float32, place int64) {
	t.Helper()
	got, behind, ok := impl.PlayRecording(recording, from, step, int64(len(want)))
	wantSamples(t, what, got, ok, want)
	wantPlace(t, what, behind, place)
}

func wantLooped(t *testing.T, what string, recording []float32, first, behind, from, step int64, want []float32, place int64) {
	t.Helper()
	got, end, ok := impl.PlayLoop(recording, first, behind, from, step, int64(len(want)))
	wantSamples(t, what, got, ok, want)
	wantPlace(t, what, end, place)
}

func TestChapter5RecordingsByHand(t *testing.T) {
	x := []float32{0, 2, 4}
	wantPlayed(t, "the example", x, 0, one/2, []float32{0, 1, 2, 3, 4, 2}, 3*one)
	wantPlayed(t, "its own speed", x, 0, one, []float32{0, 2, 4, 0, 0}, 5*one)
	wantPlayed(t, "twice its speed", x, one, 2*one, []float32{2, 0, 0}, 7*one)
	wantPlayed(t, "a quarter", x, one, one/4, []float32{2, 2.5, 3, 3.5, 4, 3, 2, 1, 0}, 3*one+one/4)
	wantPlayed(t, "a step of 0", x, one+one/2, 0, repeated(3, 256), one+one/2)
	wantPlayed(t, "no results", x, 5, 7, nil, 5)
	wantPlayed(t, "one sample", []float32{8}, 0, one/4, []float32{8, 6, 4, 2, 0, 0}, one+one/2)
	wantPlayed(t, "from its end on", x, 3*one, one/2, []float32{0, 0}, 4*one)
	wantPlayed(t, "from a step before its end on", x, 3*one-1, 1, []float32{0x1p-14, 0}, 3*one+1)
	wantPlayed(t, "the first step", []float32{0, 1}, 1, one-2, []float32{0x1p-16, 1 - 0x1p-16}, 2*one-3)
	wantPlayed(t, "the longest step", mixedSamples(810, 256), 255*one, 10*one, []float32{mixedSamples(810, 256)[255], 0}, 275*one)
	wantPlayed(t, "the last place", []float32{1}, 256*one, 10*one, make([]float32, 256), 256*one+256*10*one)
}

func TestChapter5RecordingsOfEdges(t *testing.T) {
	wantPlayed(t, "zeros with signs", []float32{minus0, minus0}, 0, one/2, []float32{minus0, 0, minus0, 0, 0}, 2*one+one/2)
	wantPlayed(t, "infinities", []float32{1, infinity, 1, -infinity}, 0, one/2,
		[]float32{1, infinity, infinity, notANum, 1, -infinity, -infinity, notANum, 0}, 4*one+one/2)
	wantPlayed(t, "equal infinities", []float32{infinity, infinity}, 0, one/2, []float32{infinity, notANum, infinity}, one+one/2)
	wantPlayed(t, "not-a-numbers", []float32{1, notANum, 1}, 0, one/2, []float32{1, notANum, notANum, notANum, 1, 0.5}, 3*one)
	wantPlayed(t, "a difference out of range", []float32{largest, -largest}, 0, one/2, []float32{largest, -infinity, -largest, -largest / 2}, 2*one)
	wantPlayed(t, "subnormal numbers", []float32{tiny, 3 * tiny, tiny}, 0, one/2, []float32{tiny, 2 * tiny, 3 * tiny, 2 * tiny, tiny, tiny}, 3*one)
	wantPlayed(t, "a product is rounded to 0", []float32{tiny, 2 * tiny}, 0, one/4, []float32{tiny, tiny, tiny, 2 * tiny, 2 * tiny}, one+one/4)
}

func TestChapter5ProductsOfPlacesAreRoundedOnTheirOwn(t *testing.T) {
	// Three quarters of the difference, 1 + 3 * 2^-23, are 0.75 + 2^-22 and 2^-25, which is rounded away.
	wantPlayed(t, "a product", []float32{-0.75 - 0x1p-22, 0.25 + 0x1p-23}, 3*one/4, 0, []float32{0}, 3*one/4)
}

func TestChapter5RecordingsAtTheirOwnSpeed(t *testing.T) {
	for style := range styles {
		for count := 1; count <= 256; count++ {
			x := samplesOfStyle(style, 820+count, count)
			got, place, ok := impl.PlayRecording(x, 0, one, int64(count))
			if !ok || !sameBits(got, x) {
				t.Errorf("a recording of %d samples is not itself", count)
			}
			wantPlace(t, "at its end", place, int64(count)*one)
			again, place, ok := impl.PlayLoop(x, 0, int64(count), 0, one, int64(count))
			if !ok || !sameBits(again, x) {
				t.Errorf("a loop of %d samples is not itself", count)
			}
			wantPlace(t, "round the loop", place, 0)
		}
	}
}

// lengthsOfRecordings are right ones.
func lengthsOfRecordings() []int { return []int{1, 2, 3, 8, 100, 255, 256} }

func stepsOfPlaces() []int64 {
	return []int64{0, 1, 2, 3000, one / 2, one - 1, one, one + 1, 3 * one / 2, 100001, 2 * one, 10*one - 1, 10 * one}
}

// placesIn are right ones, in a recording, at its end and behind it.
func placesIn(count int) []int64 {
	list := []int64{0, 1, one / 2, one - 1, one, 256*one - 1, 256 * one}
	for _, place := range []int64{int64(count-1) * one, int64(count) * one} {
		list = append(list, place, place+7, max(0, place-1), min(place+one, 256*one))
	}
	return slices.DeleteFunc(list, func(place int64) bool { return place > 256*one })
}

func TestChapter5RecordingsAreThoseOfTheDocument(t *testing.T) {
	for style := range styles {
		for i, count := range lengthsOfRecordings() {
			x := samplesOfStyle(style, 830+i, count)
			for k, step := range stepsOfPlaces() {
				for m, from := range placesIn(count) {
					want, place := plainPlay(x, from, step, lengths()[(k+m)%len(lengths())])
					wantPlayed(t, "a recording", x, from, step, want, place)
				}
			}
		}
	}
}

func TestChapter5LoopsByHand(t *testing.T) {
	x := []float32{1, 2, 4}
	wantLooped(t, "a loop", x, 1, 3, 0, one, []float32{1, 2, 4, 2, 4, 2}, 2*one)
	wantLooped(t, "half the speed", x, 1, 3, 0, one/2, []float32{1, 1.5, 2, 3, 4, 3, 2, 3}, 2*one)
	wantLooped(t, "the whole recording", x, 0, 3, 0, one/2, []float32{1, 1.5, 2, 3, 4, 2.5, 1}, one/2)
	wantLooped(t, "one sample", x, 1, 2, 0, one/2, []float32{1, 1.5, 2, 2, 2, 2}, one)
	wantLooped(t, "the last sample", x, 2, 3, 0, one/2, []float32{1, 1.5, 2, 3, 4, 4, 4, 4}, 2*one)
	wantLooped(t, "the only sample", []float32{7}, 0, 1, 0, 10*one-1, repeated(7, 256), one-256)
	wantLooped(t, "what is behind is not heard", []float32{1, 2, notANum}, 0, 2, one, one/4, []float32{2, 1.75, 1.5, 1.25, 1}, one/4)
	wantLooped(t, "what is before is heard once", []float32{9, 2, 4}, 1, 3, 0, one, []float32{9, 2, 4, 2, 4, 2}, 2*one)
	wantLooped(t, "steps longer than the loop", x, 1, 3, 0, 10*one, []float32{1, 4, 4, 4}, 2*one)
	wantLooped(t, "steps round an odd loop", x, 0, 3, 0, 10*one, []float32{1, 2, 4, 1}, one)
	wantLooped(t, "a step of 0", x, 1, 3, 2*one+one/2, 0, []float32{3, 3, 3}, 2*one+one/2)
}

func TestChapter5PlacesOfLoopsAreMadeLessAtOnce(t *testing.T) {
	x := []float32{1, 2, 4}
	wantLooped(t, "just before the end", x, 1, 3, 3*one-1, 0, nil, 3*one-1)
	wantLooped(t, "at the end", x, 1, 3, 3*one, 0, nil, one)
	wantLooped(t, "behind it", x, 1, 3, 3*one+5, one, nil, one+5)
	wantLooped(t, "twice", x, 1, 3, 5*one, one, nil, one)
	wantLooped(t, "less than twice", x, 1, 3, 5*one-1, one, nil, 3*one-1)
	wantLooped(t, "often", x, 1, 3, 256*one, one, nil, 2*one)
	wantLooped(t, "very often", x, 0, 1, 256*one, one, nil, 0)
	wantLooped(t, "before the loop", x, 2, 3, one, one, nil, one)
	wantLooped(t, "and then played", x, 1, 3, 256*one, one, []float32{4, 2, 4}, one)
	wantLooped(t, "and behind the last one", x, 1, 3, 2*one, one, []float32{4}, one)
}

func TestChapter5LoopsOfEdges(t *testing.T) {
	wantLooped(t, "zeros with signs", []float32{minus0}, 0, 1, 0, one/2, []float32{minus0, 0, minus0, 0}, 0)
	wantLooped(t, "infinities", []float32{infinity, -infinity}, 0, 2, 0, one/2, []float32{infinity, notANum, -infinity, notANum}, 0)
	wantLooped(t, "not-a-numbers", []float32{notANum, 1}, 0, 2, 0, one/2, []float32{notANum, notANum, 1, notANum}, 0)
	wantLooped(t, "subnormal numbers", []float32{tiny, 3 * tiny}, 0, 2, 0, one/2, []float32{tiny, 2 * tiny, 3 * tiny, 2 * tiny}, 0)
}

// loopsIn are right ones, as pairs of first and behind.
func loopsIn(count int) [][2]int64 {
	n := int64(count)
	list := [][2]int64{{0, 1}, {0, n}, {n - 1, n}, {n / 2, n}, {0, n/2 + 1}, {n / 3, 2*n/3 + 1}, {1, 2}, {n - 2, n - 1}}
	return slices.DeleteFunc(list, func(loop [2]int64) bool { return loop[0] < 0 || loop[1] > n || loop[0] >= loop[1] })
}

func TestChapter5LoopsAreThoseOfTheDocument(t *testing.T) {
	for style := range styles {
		for i, count := range lengthsOfRecordings() {
			x := samplesOfStyle(style, 840+i, count)
			for _, loop := range loopsIn(count) {
				for k, step := range stepsOfPlaces() {
					for m, from := range placesIn(count) {
						want, place := plainLoop(x, loop[0], loop[1], from, step, lengths()[(k+m)%len(lengths())])
						wantLooped(t, "a loop", x, loop[0], loop[1], from, step, want, place)
					}
				}
			}
		}
	}
}

func wantNotLooped(t *testing.T, what string, recording []float32, first, behind, from, step, count int64) {
	t.Helper()
	got, place, ok := impl.PlayLoop(recording, first, behind, from, step, count)
	wantNoList(t, what, got, ok)
	wantZero(t, what, place, ok)
}

func wantNotPlayed(t *testing.T, what string, recording []float32, from, step, count int64) {
	t.Helper()
	got, place, ok := impl.PlayRecording(recording, from, step, count)
	wantNoList(t, what, got, ok)
	wantZero(t, what, place, ok)
	wantNotLooped(t, what, recording, 0, min(1, int64(len(recording))), from, step, count)
	wantNotLooped(t, what, recording, 0, int64(len(recording)), from, step, count)
}

func TestChapter5NotPlayed(t *testing.T) {
	for _, count := range []int64{0, 1, 256} {
		for _, wrong := range []int{0, 257, 1000} {
			wantNotPlayed(t, "a wrong recording", make([]float32, wrong), 0, one, count)
		}
		for _, wrong := range []int64{-1, 256*one + 1, 300 * one, 1 << 32, math.MinInt64, math.MaxInt64} {
			wantNotPlayed(t, "a wrong place", []float32{1, 2}, wrong, one, count)
		}
		for _, wrong := range []int64{-1, 10*one + 1, 1 << 32, math.MinInt64, math.MaxInt64} {
			wantNotPlayed(t, "a wrong step", []float32{1, 2}, 0, wrong, count)
		}
	}
	for _, wrong := range wrongCounts() {
		wantNotPlayed(t, "a wrong count", []float32{1, 2}, 0, one, wrong)
	}
}

func TestChapter5NoLoops(t *testing.T) {
	for _, n := range []int64{1, 2, 3, 255, 256} {
		x := make([]float32, n)
		for _, count := range []int64{0, 1, 256} {
			for _, loop := range [][2]int64{
				{0, 0}, {n, n}, {n / 2, n / 2}, {n - 1, n - 1}, {n, n - 1}, {1, 0}, {n, 0}, {-1, n}, {-1, 0}, {-1, 1}, {-2, -1}, {0, n + 1}, {n, n + 1},
				{n - 1, n + 1}, {0, -1}, {math.MinInt64, n}, {0, math.MaxInt64}, {math.MaxInt64, math.MinInt64}, {math.MinInt64, math.MaxInt64}, {0, 1 << 48},
			} {
				wantNotLooped(t, "a wrong loop", x, loop[0], loop[1], 0, one, count)
			}
		}
	}
}
