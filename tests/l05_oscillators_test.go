package tests

import (
	"math"
	"testing"

	"loop.example/g01170/impl"
)

// belowOne is the greatest phase.
const belowOne = 1 - 0x1p-24

func kinds() []int64 {
	return []int64{impl.WaveSine, impl.WaveSaw, impl.WaveSquare, impl.WaveTriangle}
}

func wrongKinds() []int64 { return []int64{-1, 4, 1 << 32, math.MinInt64, math.MaxInt64} }

// phases are right ones.
func phases() []float32 {
	list := []float32{0, minus0, tiny, 0x1p-127, 0x1p-126, 0x1p-25, 0x1p-24, belowOne, belowOne - 0x1p-24}
	for _, quarter := range []float32{0.25, 0.5, 0.75} {
		list = append(list, quarter-0x1p-24, quarter-0x1p-26, quarter, quarter+0x1p-24)
	}
	for _, x := range mixedSamples(800, 40) {
		list = append(list, float32(math.Abs(math.Mod(float64(x), 1))))
	}
	return list
}

func wrongPhases() []float32 {
	return []float32{1, 1 + 0x1p-23, 2, largest, infinity, -tiny, -0x1p-24, -0.5, -1, -largest, -infinity, notANum, -notANum, rawNumber(0x7f800001)}
}

// plainWave does what the document tells of waves, apart from the program.
func plainWave(kind int64, phase float32) float32 {
	switch {
	case kind == impl.WaveSine:
		return impl.SineTurns(phase)
	case kind == impl.WaveSaw:
		return plus(times(2, phase), -1)
	case kind == impl.WaveTriangle:
		return plus(times(4, plainSize(plus(phase, -0.5))), -1)
	case phase < 0.5:
		return 1
	}
	return -1
}

func plainOscillator(o impl.Oscillator, count int) ([]float32, float32) {
	var samples []float32
	for range count {
		samples = append(samples, plainWave(o.Kind, o.Phase))
		o.Phase = plus(o.Phase, o.Step)
		if o.Phase >= 1 {
			o.Phase = plus(o.Phase, -1)
		}
	}
	return samples, o.Phase
}

func wantOscillator(t *testing.T, what string, o impl.Oscillator, want []float32, phase float32) {
	t.Helper()
	got, end, ok := impl.RunOscillator(o, int64(len(want)))
	wantSamples(t, what, got, ok, want)
	wantNumber(t, what+", the phase", end.Phase, phase)
	wantNumber(t, what+", the step", end.Step, o.Step)
	if end.Kind != o.Kind {
		t.Errorf("%s: the kind is %d, want %d", what, end.Kind, o.Kind)
	}
}

func TestChapter5WavesByHand(t *testing.T) {
	for _, c := range []struct{ phase, sine, saw, square, triangle float32 }{
		{0, 0, -1, 1, 1},
		{minus0, minus0, -1, 1, 1},
		{tiny, 6 * tiny, -1, 1, 1},
		{0.125, 0x1.6a09e6p-1, -0.75, 1, 0.5},
		{0.25, 1, -0.5, 1, 0},
		{0.5 - 0x1p-25, 0x1.921fb6p-23, -0x1p-24, 1, -1 + 0x1p-23},
		{0.5, minus0, 0, -1, -1},
		{0.5 + 0x1p-24, -0x1.921fb6p-22, 0x1p-23, -1, -1 + 0x1p-22},
		{0.75, -1, 0.5, -1, 0},
		{belowOne, -0x1.921fb6p-22, 1 - 0x1p-23, -1, 1 - 0x1p-22},
	} {
		for i, want := range []float32{c.sine, c.saw, c.square, c.triangle} {
			got, ok := impl.WaveAt(kinds()[i], c.phase)
			wantSum(t, "WaveAt", got, ok, want)
		}
	}
}

func TestChapter5WavesAreThoseOfTheDocument(t *testing.T) {
	for _, kind := range kinds() {
		for _, phase := range phases() {
			got, ok := impl.WaveAt(kind, phase)
			wantSum(t, "WaveAt", got, ok, plainWave(kind, phase))
		}
	}
}

func TestChapter5WrongWaves(t *testing.T) {
	for _, kind := range wrongKinds() {
		for _, phase := range append(phases(), wrongPhases()...) {
			got, ok := impl.WaveAt(kind, phase)
			wantZero(t, "a wrong kind", got, ok)
		}
	}
	for _, kind := range kinds() {
		for _, phase := range wrongPhases() {
			got, ok := impl.WaveAt(kind, phase)
			wantZero(t, "a wrong phase", got, ok)
		}
	}
}

func wantNoOscillator(t *testing.T, what string, o impl.Oscillator, count int64) {
	t.Helper()
	samples, end, ok := impl.RunOscillator(o, count)
	wantNoList(t, what, samples, ok)
	wantZero(t, what, end, ok)
}

func wantWrongOscillator(t *testing.T, what string, o impl.Oscillator) {
	t.Helper()
	if impl.ValidOscillator(o) {
		t.Errorf("%s: %v is valid", what, o)
	}
	for _, count := range []int64{0, 1, 256} {
		wantNoOscillator(t, what, o, count)
	}
}

func TestChapter5ValidOscillators(t *testing.T) {
	for _, kind := range kinds() {
		for _, step := range phases() {
			for _, phase := range phases() {
				if o := (impl.Oscillator{Kind: kind, Step: step, Phase: phase}); !impl.ValidOscillator(o) {
					t.Errorf("%v is not valid", o)
				}
			}
		}
	}
}

func TestChapter5WrongOscillators(t *testing.T) {
	for _, right := range []float32{0, minus0, 0.5, belowOne} {
		for _, kind := range wrongKinds() {
			wantWrongOscillator(t, "a wrong kind", impl.Oscillator{Kind: kind, Step: right, Phase: right})
		}
		for _, kind := range kinds() {
			for _, wrong := range wrongPhases() {
				wantWrongOscillator(t, "a wrong step", impl.Oscillator{Kind: kind, Step: wrong, Phase: right})
				wantWrongOscillator(t, "a wrong phase", impl.Oscillator{Kind: kind, Step: right, Phase: wrong})
				wantWrongOscillator(t, "both", impl.Oscillator{Kind: kind, Step: wrong, Phase: wrong})
			}
		}
	}
}

// wrongCounts are beside 0 to MaxSamples.
func wrongCounts() []int64 {
	return []int64{-1, 257, -256, 1 << 32, 1<<32 + 1, math.MinInt64, math.MaxInt64}
}

func TestChapter5OscillatorsWithWrongCounts(t *testing.T) {
	for _, kind := range kinds() {
		for _, count := range wrongCounts() {
			wantNoOscillator(t, "a wrong count", impl.Oscillator{Kind: kind, Step: 0.25, Phase: 0.5}, count)
		}
	}
}

func TestChapter5OscillatorsByHand(t *testing.T) {
	saw := func(step, phase float32) impl.Oscillator {
		return impl.Oscillator{Kind: impl.WaveSaw, Step: step, Phase: phase}
	}
	wantOscillator(t, "the example", saw(0.25, 0), []float32{-1, -0.5, 0, 0.5}, 0)
	wantOscillator(t, "no samples", saw(0.25, 0.875), nil, 0.875)
	wantOscillator(t, "no samples, -0", saw(minus0, minus0), nil, minus0)
	wantOscillator(t, "a sum greater than 1", saw(0.75, 0.5), []float32{0, -0.5, -1, 0.5}, 0.5)
	wantOscillator(t, "a sum of 1", saw(0.5, 0.5), []float32{0, -1, 0}, 0)
	wantOscillator(t, "a step of 0", saw(0, 0.75), repeated(0.5, 256), 0.75)
	wantOscillator(t, "zeros with signs", saw(minus0, minus0), repeated(-1, 3), minus0)
	wantOscillator(t, "a step of 0 behind -0", saw(0, minus0), repeated(-1, 3), 0)
	wantOscillator(t, "a square", impl.Oscillator{Kind: impl.WaveSquare, Step: 0.375}, []float32{1, 1, -1, 1, -1}, 0.875)
	wantOscillator(t, "a triangle", impl.Oscillator{Kind: impl.WaveTriangle, Step: 0.125, Phase: 0.25}, []float32{0, -0.5, -1, -0.5, 0, 0.5, 1}, 0.125)
	wantOscillator(t, "a sine", impl.Oscillator{Kind: impl.WaveSine, Step: 0.25, Phase: minus0}, []float32{minus0, 1, minus0, -1, 0, 1}, 0.5)
}

func TestChapter5PhasesGoRoundJustBelowOne(t *testing.T) {
	phase := func(step, phase, next float32) {
		t.Helper()
		o := impl.Oscillator{Kind: impl.WaveSaw, Step: step, Phase: phase}
		wantOscillator(t, "a phase", o, []float32{plainWave(impl.WaveSaw, phase)}, next)
	}
	phase(belowOne, 0, belowOne)
	phase(belowOne, belowOne, 1-0x1p-23)
	phase(0x1p-24, belowOne, 0)
	phase(belowOne, 0x1p-24, 0)
	phase(0x1p-23, belowOne, 0) // The sum 1 + 2^-24 is halfway to 1 + 2^-23, and 1 is even.
	phase(0x3p-24, belowOne, 0x1p-23)
	phase(0x1p-25, belowOne, 0)
	phase(0x1p-26, belowOne, belowOne)
	phase(tiny, belowOne, belowOne)
	phase(0x1p-24, belowOne-0x1p-24, belowOne)
	phase(tiny, tiny, 2*tiny)
}

func TestChapter5OscillatorsAreThoseOfTheDocument(t *testing.T) {
	for _, kind := range kinds() {
		for i, n := range lengths() {
			for k, step := range phases() {
				phase := phases()[(5*k+i)%len(phases())]
				o := impl.Oscillator{Kind: kind, Step: step, Phase: phase}
				want, last := plainOscillator(o, n)
				wantOscillator(t, "an oscillator", o, want, last)
			}
		}
	}
}

// pitchBits were computed apart from the program, and are those of the steps of all pitches.
func pitchBits() []uint32 {
	return []uint32{
		0x39329a62, 0x393d392d, 0x394879a3, 0x39546562, 0x39610697, 0x396e680f, 0x397c9536, 0x3985cd15,
		0x398dc1e1, 0x39962fc9, 0x399f1e03, 0x39a8942e, 0x39b29a62, 0x39bd392d, 0x39c879a3, 0x39d46562,
		0x39e10697, 0x39ee680f, 0x39fc9536, 0x3a05cd15, 0x3a0dc1e1, 0x3a162fc9, 0x3a1f1e03, 0x3a28942e,
		0x3a329a62, 0x3a3d392d, 0x3a4879a3, 0x3a546562, 0x3a610697, 0x3a6e680f, 0x3a7c9536, 0x3a85cd15,
		0x3a8dc1e1, 0x3a962fc9, 0x3a9f1e03, 0x3aa8942e, 0x3ab29a62, 0x3abd392d, 0x3ac879a3, 0x3ad46562,
		0x3ae10697, 0x3aee680f, 0x3afc9536, 0x3b05cd15, 0x3b0dc1e1, 0x3b162fc9, 0x3b1f1e03, 0x3b28942e,
		0x3b329a62, 0x3b3d392d, 0x3b4879a3, 0x3b546562, 0x3b610697, 0x3b6e680f, 0x3b7c9536, 0x3b85cd15,
		0x3b8dc1e1, 0x3b962fc9, 0x3b9f1e03, 0x3ba8942e, 0x3bb29a62, 0x3bbd392d, 0x3bc879a3, 0x3bd46562,
		0x3be10697, 0x3bee680f, 0x3bfc9536, 0x3c05cd15, 0x3c0dc1e1, 0x3c162fc9, 0x3c1f1e03, 0x3c28942e,
		0x3c329a62, 0x3c3d392d, 0x3c4879a3, 0x3c546562, 0x3c610697, 0x3c6e680f, 0x3c7c9536, 0x3c85cd15,
		0x3c8dc1e1, 0x3c962fc9, 0x3c9f1e03, 0x3ca8942e, 0x3cb29a62, 0x3cbd392d, 0x3cc879a3, 0x3cd46562,
		0x3ce10697, 0x3cee680f, 0x3cfc9536, 0x3d05cd15, 0x3d0dc1e1, 0x3d162fc9, 0x3d1f1e03, 0x3d28942e,
		0x3d329a62, 0x3d3d392d, 0x3d4879a3, 0x3d546562, 0x3d610697, 0x3d6e680f, 0x3d7c9536, 0x3d85cd15,
		0x3d8dc1e1, 0x3d962fc9, 0x3d9f1e03, 0x3da8942e, 0x3db29a62, 0x3dbd392d, 0x3dc879a3, 0x3dd46562,
		0x3de10697, 0x3dee680f, 0x3dfc9536, 0x3e05cd15, 0x3e0dc1e1, 0x3e162fc9, 0x3e1f1e03, 0x3e28942e,
		0x3e329a62, 0x3e3d392d, 0x3e4879a3, 0x3e546562, 0x3e610697, 0x3e6e680f, 0x3e7c9536, 0x3e85cd15,
	}
}

func TestChapter5StepsOfPitches(t *testing.T) {
	for pitch, want := range pitchBits() {
		step, ok := impl.StepOfPitch(int64(pitch))
		wantSum(t, "StepOfPitch", step, ok, rawNumber(want))
	}
	if len(pitchBits()) != impl.MaxPitch+1 {
		t.Errorf("%d pitches", len(pitchBits()))
	}
	for _, pitch := range wrongPitches() {
		step, ok := impl.StepOfPitch(pitch)
		wantZero(t, "StepOfPitch", step, ok)
	}
}

func wrongPitches() []int64 {
	return []int64{-1, 128, -69, 1 << 32, 1<<32 + 69, math.MinInt64, math.MaxInt64}
}
