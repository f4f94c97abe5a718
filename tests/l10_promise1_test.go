package tests

import (
	"reflect"
	"runtime"
	"slices"
	"sync"
	"testing"

	"loop.example/g01170/impl"
)

func clippedOutcome(runs [][]int64, ok bool) []any { return plain(append([][]int64{}, runs...), ok) }

func pitchOutcome(lag int64, power float32, ok bool) []any { return plain(lag, power, ok) }

func anyPartLengths() []int64 { return append(wrongPartLengths(), 1, 2, 3, 44, 255, 256) }

func anyFloors() []float32 { return []float32{0, minus0, 1, -1, tiny, infinity, -infinity, notANum} }

func TestPromise1MetersOfSamples(t *testing.T) {
	for _, list := range anyLists() {
		x := guardNumbers(list)
		wantTwice(t, "meters of samples", func() []any {
			return slices.Concat(outcome(impl.PeakBetween(x.list)), outcome(impl.CrossingsOf(x.list)))
		})
		for _, a := range edgeNumbers() {
			for _, least := range anyPartLengths() {
				wantTwice(t, "ClippedRuns", func() []any { return clippedOutcome(impl.ClippedRuns(x.list, a, least)) })
			}
			for _, b := range edgeNumbers() {
				wantTwice(t, "HoldPeaks", func() []any { return outcome(impl.HoldPeaks(x.list, a, b)) })
			}
		}
		for _, parts := range append(anyPartLengths(), 4, 63, 64, 65) {
			wantTwice(t, "SpreadOf", func() []any { return outcome(impl.SpreadOf(x.list, parts)) })
		}
		if !x.isUntouched() {
			t.Errorf("%d samples were modified", len(list))
		}
	}
	for _, level := range edgeNumbers() {
		wantTwice(t, "TenthsOf", func() []any { return outcome(impl.TenthsOf(level)) })
	}
}

func TestPromise1MetersOfLagsAndWindows(t *testing.T) {
	for _, list := range anyLists() {
		x := guardNumbers(list)
		for _, first := range append(anyPartLengths(), anyIntegers()...) {
			for _, second := range append(anyPartLengths(), anyIntegers()...) {
				wantTwice(t, "functions of lags", func() []any {
					return slices.Concat(outcome(impl.LagPower(x.list, first, second)), pitchOutcome(impl.PitchOf(x.list, first, second)))
				})
				wantTwice(t, "WindowPowers", func() []any { return outcome(impl.WindowPowers(x.list, first, second)) })
				for _, floor := range anyFloors() {
					wantTwice(t, "LoudnessOf", func() []any { return outcome(impl.LoudnessOf(x.list, first, second, floor)) })
				}
			}
		}
		if !x.isUntouched() {
			t.Errorf("%d samples were modified", len(list))
		}
	}
}

func TestPromise1MetersOfChannels(t *testing.T) {
	for _, first := range anyLists() {
		left := guardNumbers(first)
		for _, second := range append(anyLists(), slices.Clone(first), left.list) {
			right := guardNumbers(second)
			wantTwice(t, "functions of channels", func() []any {
				return slices.Concat(outcome(impl.LikenessOf(left.list, right.list)), outcome(impl.BalanceOf(left.list, right.list)),
					outcome(impl.LikenessOf(left.list, left.list)), outcome(impl.BalanceOf(left.list, left.list)))
			})
			if !left.isUntouched() || !right.isUntouched() {
				t.Errorf("a channel of %d or %d samples was modified", len(first), len(second))
			}
		}
	}
}

// allMeters are the results of all functions of chapter 10 for a list.
func allMeters(x []float32) []any {
	half := int64(len(x) / 2)
	return slices.Concat(outcome(impl.PeakBetween(x)), clippedOutcome(impl.ClippedRuns(x, 0.5, 2)), outcome(impl.CrossingsOf(x)),
		outcome(impl.LagPower(x, 1, half)), pitchOutcome(impl.PitchOf(x, 1, half)), pitchOutcome(impl.PitchOf(x, 2, half+half/2)),
		outcome(impl.WindowPowers(x, 3, 2)), outcome(impl.LoudnessOf(x, 3, 2, 0)), outcome(impl.TenthsOf(x[0])),
		outcome(impl.LikenessOf(x[:half], x[half:2*half])), outcome(impl.BalanceOf(x[:half], x[half:2*half])),
		outcome(impl.SpreadOf(x, 5)), outcome(impl.HoldPeaks(x, 1, 0.5)))
}

// meteredManyTimes have pitches of equal powers in all parts of the lags, and some without any.
func meteredManyTimes() [][]float32 {
	lists := [][]float32{{1, 2}, wave(8), wave(256), make([]float32, 256), repeated(notANum, 30), repeated(infinity, 30), edgeNumbers()}
	for style := range styles {
		lists = append(lists, samplesOfStyle(style, 12500, 30), slices.Repeat(samplesOfStyle(style, 12510, 3), 40))
	}
	return lists
}

func TestPromise1MetersCalledManyTimes(t *testing.T) {
	for _, list := range meteredManyTimes() {
		x := guardNumbers(list)
		want := allMeters(x.list)
		for range 1000 {
			if got := allMeters(x.list); !reflect.DeepEqual(got, want) {
				t.Fatalf("%v, and then %v", want, got)
			}
		}
		if !x.isUntouched() {
			t.Errorf("%d samples were modified", len(list))
		}
	}
}

func TestPromise1MetersCalledAtTheSameTime(t *testing.T) {
	var callers sync.WaitGroup
	for _, list := range meteredManyTimes() {
		want := allMeters(list)
		for range 4 {
			callers.Add(1)
			go func() {
				defer callers.Done()
				for range 100 {
					if got := allMeters(list); !reflect.DeepEqual(got, want) {
						t.Errorf("%v, and then %v", want, got)
						return
					}
				}
			}()
		}
	}
	callers.Wait()
}

func TestPromise1MetersLeaveNothingRunning(t *testing.T) {
	before := runtime.NumGoroutine()
	for _, list := range meteredManyTimes() {
		for range 100 {
			allMeters(list)
		}
	}
	// What has been joined may need a moment to end.
	for range 1000000 {
		if runtime.NumGoroutine() <= before {
			return
		}
		runtime.Gosched()
	}
	t.Errorf("%d goroutines before, and %d behind all calls", before, runtime.NumGoroutine())
}

// A pitch is of the samples as they were at the call, also if they are overwritten just behind it.
func TestPromise1PitchesAreReadAtTheCall(t *testing.T) {
	x := make([]float32, 256)
	for range 300 {
		copy(x, wave(256))
		wantPitch(t, "a wave", x, 5, 200, 8, 0)
		overwrite(x)
	}
}

func TestPromise1MetersShareNoMemory(t *testing.T) {
	for _, n := range []int{0, 1, 2, 8, 255, 256} {
		x := guardNumbers(mixedSamples(12600+n, n))
		powers, _ := impl.WindowPowers(x.list, 1, 1)
		few, _ := impl.WindowPowers(x.list, 2, 2)
		again, _ := impl.WindowPowers(x.list, 1, 1)
		peaks, _ := impl.HoldPeaks(x.list, 0, 0.5)
		other, ok := impl.HoldPeaks(x.list, 0, 0.5)
		if !ok {
			t.Fatalf("%d samples are refused", n)
		}
		wantOwnMemory(t, "meters", powers, few, again, peaks, other)
		if !x.isUntouched() {
			t.Errorf("a result of %d samples shares memory with them", n)
		}
	}
}

// overwriteIntegers writes into all memory of a list, also behind its end.
func overwriteIntegers(list []int64) {
	list = list[:cap(list)]
	for i := range list {
		list[i] = -12345
	}
}

func TestPromise1RunsAndSpreadsShareNoMemory(t *testing.T) {
	x := repeated(1, 256)
	for i := 0; i < 256; i += 3 {
		x[i] = 0
	}
	want := plainRuns(x, 1, 1)
	for i := range want {
		runs, _ := impl.ClippedRuns(x, 1, 1)
		others, _ := impl.ClippedRuns(x, 1, 1)
		if len(runs) != len(want) || len(others) != len(want) {
			t.Fatalf("%d and %d runs", len(runs), len(others))
		}
		overwriteIntegers(runs[i])
		clear(others[:cap(others)])
		for k, run := range runs {
			if k != i && !slices.Equal(run, want[k]) {
				t.Errorf("the runs %d and %d share memory: %v", i, k, run)
			}
		}
	}
	wantRuns(t, "runs again", x, 1, 1, want...)
	first, _ := impl.SpreadOf(x, 64)
	second, ok := impl.SpreadOf(x, 64)
	overwriteIntegers(first)
	wantIntegers(t, "a spread beside another one", second, ok, plainSpreadOf(x, 64))
}

func TestPromise1MetersOfNilAndEmptyLists(t *testing.T) {
	none := []float32{}
	for i, pair := range [][2][]any{
		{outcome(impl.PeakBetween(nil)), outcome(impl.PeakBetween(none))},
		{clippedOutcome(impl.ClippedRuns(nil, 0, 1)), clippedOutcome(impl.ClippedRuns(none, 0, 1))},
		{outcome(impl.CrossingsOf(nil)), outcome(impl.CrossingsOf(none))},
		{outcome(impl.WindowPowers(nil, 1, 1)), outcome(impl.WindowPowers(none, 1, 1))},
		{outcome(impl.SpreadOf(nil, 3)), outcome(impl.SpreadOf(none, 3))},
		{outcome(impl.HoldPeaks(nil, 1, 1)), outcome(impl.HoldPeaks(none, 1, 1))},
	} {
		if !reflect.DeepEqual(pair[0], pair[1]) || pair[0][len(pair[0])-1] != true {
			t.Errorf("pair %d: %v and %v", i, pair[0], pair[1])
		}
	}
	for i, pair := range [][2][]any{
		{outcome(impl.LagPower(nil, 0, 1)), outcome(impl.LagPower(none, 0, 1))},
		{pitchOutcome(impl.PitchOf(nil, 1, 1)), pitchOutcome(impl.PitchOf(none, 1, 1))},
		{outcome(impl.LoudnessOf(nil, 1, 1, 0)), outcome(impl.LoudnessOf(none, 1, 1, 0))},
		{outcome(impl.LikenessOf(nil, none)), outcome(impl.LikenessOf(none, nil))},
		{outcome(impl.BalanceOf(nil, none)), outcome(impl.BalanceOf(none, nil))},
	} {
		if !reflect.DeepEqual(pair[0], pair[1]) || pair[0][len(pair[0])-1] != false {
			t.Errorf("wrong pair %d: %v and %v", i, pair[0], pair[1])
		}
	}
}
