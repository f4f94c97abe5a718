package tests

import (
	"math"
	"testing"

	"loop.example/g01170/impl"
)

// plainPlayAt adds up places, and reports whether all of them are right ones.
func plainPlayAt(kind int64, samples []float32, from, step float64, count int) ([]float32, bool) {
	var results []float32
	place := from
	for range count {
		if !(place >= 0 && place <= float64(len(samples)-1)) {
			return nil, false
		}
		results = append(results, plainAt(kind, samples, place))
		place += step
	}
	return results, true
}

func wantPlayedAt(t *testing.T, what string, kind int64, samples []float32, from, step float64, want ...float32) {
	t.Helper()
	got, ok := impl.PlayAt(kind, samples, from, step, int64(len(want)))
	wantSamples(t, what, got, ok, want)
}

func wantNotPlayedAt(t *testing.T, what string, kind int64, samples []float32, from, step float64, count int64) {
	t.Helper()
	got, ok := impl.PlayAt(kind, samples, from, step, count)
	wantNoList(t, what, got, ok)
}

func TestChapter6PlayedByHand(t *testing.T) {
	x := []float32{0, 4, 8}
	wantPlayedAt(t, "by the line", impl.ReadLine, x, 0.5, 0.75, 2, 5, 8)
	wantPlayedAt(t, "near", impl.ReadNear, x, 0.25, 0.5, 0, 4, 4, 8)
	wantPlayedAt(t, "by the curve", impl.ReadCurve, []float32{0, 0, 1, 0, 0}, 0.5, 0.5, -0.0625, 0, 0.5625, 1, 0.5625, 0, -0.0625, 0)
	wantPlayedAt(t, "back", impl.ReadNear, x, 2, -1, 8, 4, 0)
	wantPlayedAt(t, "back by the line", impl.ReadLine, x, 2, -0.75, 8, 5, 2)
	wantPlayedAt(t, "a step of 0", impl.ReadLine, x, 1.25, 0, repeated(5, 256)...)
	wantPlayedAt(t, "a step of -0", impl.ReadLine, x, 1.25, minus0Wide, repeated(5, 256)...)
	wantPlayedAt(t, "the last place alone", impl.ReadLine, x, 2, 1, 8)
	wantPlayedAt(t, "the first place alone", impl.ReadLine, x, 0, -1, 0)
	wantPlayedAt(t, "the only sample", impl.ReadCurve, []float32{7}, 0, 0, repeated(7, 256)...)
	wantPlayedAt(t, "a step far beyond the end", impl.ReadLine, x, 1, math.MaxFloat64, 4)
	wantPlayedAt(t, "a step far before the start", impl.ReadLine, x, 1, -math.MaxFloat64, 4)
	wantPlayedAt(t, "a step that changes nothing", impl.ReadLine, x, 1, 0x1p-54, repeated(4, 256)...)
	wantPlayedAt(t, "and that changes something", impl.ReadNear, []float32{0, 4}, 0.5-0x1p-26-0x1p-54, 0x1p-54, 0, 4)
}

func TestChapter6PlayedBeyondTheEnds(t *testing.T) {
	x := []float32{0, 4, 8}
	for _, kind := range readKinds() {
		wantNotPlayedAt(t, "the place behind the last one", kind, x, 0, 1, 4)
		wantNotPlayedAt(t, "the place before the first one", kind, x, 2, -1, 4)
		wantNotPlayedAt(t, "a place just behind the last one", kind, x, 1, 1+0x1p-51, 2)
		wantPlayedAt(t, "a place that is rounded to the last one", kind, x, 1, 1+0x1p-52, 4, 8)
		wantNotPlayedAt(t, "a place just before the first one", kind, x, placeBefore(1), -1, 2)
		wantNotPlayedAt(t, "a step far beyond the end", kind, x, 1, math.MaxFloat64, 2)
		wantNotPlayedAt(t, "a step far before the start", kind, x, 1, -math.MaxFloat64, 2)
		wantNotPlayedAt(t, "the second place of one sample", kind, x[:1], 0, math.SmallestNonzeroFloat64, 2)
		wantNotPlayedAt(t, "the last of 256 places", kind, make([]float32, 256), 1, 1, 256)
	}
}

func TestChapter6PlacesAreAddedUp(t *testing.T) {
	x := []float32{0x1p24, -1, 5}
	for _, kind := range readKinds() {
		// Ten times 0.1 is 1, but added up it is a bit less, and twenty times it is a bit more than 2.
		want, _ := plainPlayAt(kind, x, 0, 0.1, 20)
		wantPlayedAt(t, "tenths", kind, x, 0, 0.1, want...)
		wantNotPlayedAt(t, "a bit more than the last place", kind, x, 0, 0.1, 21)
		want, _ = plainPlayAt(kind, x[:2], 0, 0.1, 11)
		wantPlayedAt(t, "a bit less than the last place", kind, x[:2], 0, 0.1, want...)
		wantNotPlayedAt(t, "ten times 0.7", kind, make([]float32, 8), 0, 0.7, 11)
	}
	got, ok := impl.PlayAt(impl.ReadLine, x, 0, 0.1, 11)
	wantSum(t, "the eleventh place", got[10], ok, 0)
}

func TestChapter6PlayedFromBothZeros(t *testing.T) {
	x := []float32{minus0, minus0}
	for _, kind := range []int64{impl.ReadLine, impl.ReadCurve} {
		wantPlayedAt(t, "from -0 with the step -0", kind, x, minus0Wide, minus0Wide, minus0, minus0, minus0)
		wantPlayedAt(t, "from -0 with the step +0", kind, x, minus0Wide, 0, minus0, 0, 0)
		wantPlayedAt(t, "from +0 with the step -0", kind, x, 0, minus0Wide, 0, 0)
		wantPlayedAt(t, "back to 0", kind, x, 1, -1, 0, 0)
	}
	wantPlayedAt(t, "near", impl.ReadNear, x, minus0Wide, 0.25, minus0, minus0, minus0, minus0, minus0)
}

func TestChapter6PlayedAreThoseOfTheDocument(t *testing.T) {
	played, stopped := 0, 0
	for style := range styles {
		for i, count := range []int{1, 2, 3, 50, 255, 256} {
			x := samplesOfStyle(style, 940+i, count)
			for k, n := range []int{1, 2, 3, 10, 100, 256} {
				for m, step := range []float64{0, 1, -1, 0.5, 0.1, -0.1, 1.0 / 3, -1.0 / 3, 0.9, 1.1, -1.3, 0x1p-40, -0x1p-40, 7.7} {
					from := placesOf(count)[(5*k+m)%len(placesOf(count))]
					for _, kind := range readKinds() {
						want, ok := plainPlayAt(kind, x, from, step, n)
						if !ok {
							stopped++
							wantNotPlayedAt(t, "places", kind, x, from, step, int64(n))
							continue
						}
						played++
						wantPlayedAt(t, "places", kind, x, from, step, want...)
					}
				}
			}
		}
	}
	if played < 1000 || stopped < 1000 {
		t.Errorf("%d were played, and %d not", played, stopped)
	}
}

func wrongSteps() []float64 {
	return []float64{math.Inf(1), math.Inf(-1), math.NaN(), -math.NaN(), math.Float64frombits(0x7ff0000000000001)}
}

func TestChapter6PlayedNowhere(t *testing.T) {
	for _, kind := range readKinds() {
		for _, count := range []int{0, 1, 3, 256} {
			x := mixedSamples(950, count)
			for _, place := range append(wrongPlaces(count), 0, minus0Wide) {
				for _, step := range []float64{0, minus0Wide, 1, -1, math.MaxFloat64, -math.MaxFloat64} {
					got, ok := impl.PlayAt(kind, x, place, step, 0)
					wantSamples(t, "no places", got, ok, nil)
				}
				for _, step := range wrongSteps() {
					wantNotPlayedAt(t, "no places, but a wrong step", kind, x, place, step, 0)
				}
			}
		}
	}
}

func TestChapter6NotPlayed(t *testing.T) {
	x := make([]float32, 256)
	for _, kind := range readKinds() {
		for _, count := range []int64{1, 2, 256} {
			for _, place := range wrongPlaces(256) {
				wantNotPlayedAt(t, "a wrong place", kind, x, place, 0, count)
			}
			for _, step := range wrongSteps() {
				wantNotPlayedAt(t, "a wrong step", kind, x, 0, step, count)
			}
			wantNotPlayedAt(t, "no samples", kind, nil, 0, 0, count)
			wantNotPlayedAt(t, "no samples", kind, []float32{}, 0, 0, count)
		}
		for _, count := range []int64{0, 1} {
			wantNotPlayedAt(t, "too many samples", kind, make([]float32, 257), 0, 0, count)
		}
		for _, wrong := range wrongCounts() {
			wantNotPlayedAt(t, "a wrong count", kind, x, 0, 0, wrong)
			wantNotPlayedAt(t, "a wrong count", kind, x, 0, 1, wrong)
		}
		wantPlayedAt(t, "as many places as there can be", kind, x, 0, 1, x...)
	}
	for _, wrong := range wrongReadKinds() {
		for _, count := range []int64{0, 1, 256} {
			wantNotPlayedAt(t, "a wrong kind", wrong, x, 0, 0, count)
			wantNotPlayedAt(t, "a wrong kind, and no samples", wrong, nil, 0, 0, count)
		}
	}
}
