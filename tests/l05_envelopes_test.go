package tests

import (
	"math"
	"testing"

	"loop.example/g01170/impl"
)

// plainHeld is the level of a note that is still held, apart from the program.
func plainHeld(e impl.Envelope, n int64) float32 {
	k := n - e.Attack
	if k < 0 {
		return over(float32(n), float32(e.Attack))
	}
	if k >= e.Decay {
		return e.Sustain
	}
	return plus(1, -times(over(float32(k), float32(e.Decay)), plus(1, -e.Sustain)))
}

func plainLevel(e impl.Envelope, held, n int64) float32 {
	if n < held {
		return plainHeld(e, n)
	}
	if n-held >= e.Release {
		return 0
	}
	return times(plainHeld(e, held), plus(1, -over(float32(n-held), float32(e.Release))))
}

// wantEnvelope wants levels from the sample 0 on.
func wantEnvelope(t *testing.T, what string, e impl.Envelope, held int64, want ...float32) {
	t.Helper()
	var got []float32
	all := true
	for n := range want {
		level, ok := impl.LevelAt(e, held, int64(n))
		got = append(got, level)
		all = all && ok
	}
	wantSamples(t, what, got, all, want)
}

func TestChapter5LevelsByHand(t *testing.T) {
	e := impl.Envelope{Attack: 4, Decay: 2, Sustain: 0.5, Release: 4}
	wantEnvelope(t, "the example", e, 1000, 0, 0.25)
	wantEnvelope(t, "all parts", e, 8, 0, 0.25, 0.5, 0.75, 1, 0.75, 0.5, 0.5, 0.5, 0.375, 0.25, 0.125, 0, 0)
	wantEnvelope(t, "held to the end of the decay", e, 6, 0, 0.25, 0.5, 0.75, 1, 0.75, 0.5, 0.375, 0.25, 0.125, 0)
	wantEnvelope(t, "held into the decay", e, 5, 0, 0.25, 0.5, 0.75, 1, 0.75, 0.5625, 0.375, 0.1875, 0)
	wantEnvelope(t, "held to the end of the attack", e, 4, 0, 0.25, 0.5, 0.75, 1, 0.75, 0.5, 0.25, 0)
	wantEnvelope(t, "held into the attack", e, 2, 0, 0.25, 0.5, 0.375, 0.25, 0.125, 0, 0)
	wantEnvelope(t, "held for 0", e, 0, 0, 0, 0, 0, 0)
	e.Attack = 0
	wantEnvelope(t, "no attack, held for 0", e, 0, 1, 0.75, 0.5, 0.25, 0)
	wantEnvelope(t, "no attack", e, 3, 1, 0.75, 0.5, 0.5, 0.375, 0.25, 0.125, 0)
	e.Decay = 0
	wantEnvelope(t, "no decay, held for 0", e, 0, 0.5, 0.375, 0.25, 0.125, 0)
	e.Release = 0
	wantEnvelope(t, "no release, held for 0", e, 0, 0, 0)
	wantEnvelope(t, "no release", e, 2, 0.5, 0.5, 0, 0)
	e.Attack = 2
	wantEnvelope(t, "attack alone", e, 3, 0, 0.5, 0.5, 0)
}

func TestChapter5LevelsWithAnySustain(t *testing.T) {
	e := impl.Envelope{Attack: 1, Decay: 2, Release: 2}
	sustain := func(x float32) impl.Envelope {
		e.Sustain = x
		return e
	}
	wantEnvelope(t, "greater than 1", sustain(3), 4, 0, 1, 2, 3, 3, 1.5, 0)
	wantEnvelope(t, "less than 0", sustain(-1), 4, 0, 1, 0, -1, -1, -0.5, 0)
	wantEnvelope(t, "-0", sustain(minus0), 4, 0, 1, 0.5, minus0, minus0, minus0, 0)
	wantEnvelope(t, "a not-a-number", sustain(notANum), 4, 0, notANum, notANum, notANum, notANum, notANum, 0)
	wantEnvelope(t, "an infinity", sustain(infinity), 4, 0, notANum, infinity, infinity, infinity, infinity, 0)
	wantEnvelope(t, "a negative infinity", sustain(-infinity), 4, 0, notANum, -infinity, -infinity, -infinity, -infinity, 0)
	wantEnvelope(t, "the greatest number", sustain(largest), 4, 0, 1, 0x1.fffffep126, largest, largest, 0x1.fffffep126, 0)
	wantEnvelope(t, "a subnormal number", sustain(3*tiny), 4, 0, 1, 0.5, 3*tiny, 3*tiny, 2*tiny, 0)
	wantEnvelope(t, "a number that is not used", sustain(notANum), 0, 0, 0, 0)
	e.Release = 0
	wantEnvelope(t, "+0 behind a not-a-number", sustain(notANum), 4, 0, notANum, notANum, notANum, 0)
	wantEnvelope(t, "+0 behind -0", sustain(minus0), 4, 0, 1, 0.5, minus0, 0)
}

func TestChapter5LevelsAreRounded(t *testing.T) {
	third := over(1, 3)
	e := impl.Envelope{Attack: 3, Decay: 3, Sustain: third, Release: 3}
	wantEnvelope(t, "thirds", e, 1, 0, third, times(third, plus(1, -third)), times(third, plus(1, -over(2, 3))), 0)
	wantEnvelope(t, "a decay", e, 6, 0, third, over(2, 3), 1, rawNumber(0x3f471c72), rawNumber(0x3f0e38e4), third)
	// Three of the numbers nearest to 1/3 are 1 + 2^-25, which is rounded to 1.
	wantEnvelope(t, "the product is rounded before it is taken away", impl.Envelope{Decay: 3, Sustain: -2}, 9, 1, 0, -1, -2)
}

// sevenParts are counts of samples in an envelope, with their limits.
func sevenParts() []int64 { return []int64{0, 1, 2, 3, 7, 999, 1000} }

func TestChapter5LevelsAreThoseOfTheDocument(t *testing.T) {
	for i, sustain := range append(edgeNumbers(), 0.3, 0.7, -2.1) {
		for _, attack := range sevenParts() {
			for _, decay := range sevenParts() {
				e := impl.Envelope{Attack: attack, Decay: decay, Sustain: sustain, Release: sevenParts()[i%7]}
				for _, held := range []int64{0, 1, 2, 5, 999, 1000, 1001, 1999, 2000, 4000, int64(11 * i)} {
					for _, n := range []int64{0, 1, 2, 4, attack, attack + 1, attack + decay, held - 1, held, held + 1, held + 500, held + 999, held + e.Release, 4000} {
						if n < 0 || n > 4000 {
							continue
						}
						got, ok := impl.LevelAt(e, held, n)
						wantSum(t, "LevelAt", got, ok, plainLevel(e, held, n))
					}
				}
			}
		}
	}
}

func TestChapter5EachLevelIsThatOfTheDocument(t *testing.T) {
	for i, e := range []impl.Envelope{
		{Attack: 7, Decay: 11, Sustain: 0.3, Release: 13}, {Attack: 1000, Decay: 1000, Sustain: -0.7, Release: 1000}, {Decay: 100, Sustain: 5, Release: 50},
	} {
		for _, held := range []int64{0, int64(3 + i), 11, 500, 1500, 3000, 4000} {
			for n := range int64(4001) {
				got, ok := impl.LevelAt(e, held, n)
				wantSum(t, "LevelAt", got, ok, plainLevel(e, held, n))
			}
		}
	}
}

// wrongParts are beside 0 to MaxHeld.
func wrongParts() []int64 {
	return []int64{-1, 1001, 1 << 32, 1<<32 + 1, math.MinInt64, math.MaxInt64}
}

// envelopeWith has one part, 0 to 2, of some samples.
func envelopeWith(part int, samples int64) impl.Envelope {
	parts := [3]int64{5, 5, 5}
	parts[part] = samples
	return impl.Envelope{Attack: parts[0], Decay: parts[1], Sustain: notANum, Release: parts[2]}
}

func TestChapter5ValidEnvelopes(t *testing.T) {
	for part := range 3 {
		for _, samples := range sevenParts() {
			for _, sustain := range edgeNumbers() {
				e := envelopeWith(part, samples)
				e.Sustain = sustain
				if !impl.ValidEnvelope(e) {
					t.Errorf("%v is not valid", e)
				}
			}
		}
		for _, samples := range wrongParts() {
			if e := envelopeWith(part, samples); impl.ValidEnvelope(e) {
				t.Errorf("%v is valid", e)
			}
		}
	}
}

func wantNoLevel(t *testing.T, what string, e impl.Envelope, held, n int64) {
	t.Helper()
	level, ok := impl.LevelAt(e, held, n)
	wantZero(t, what, level, ok)
}

func TestChapter5NoLevels(t *testing.T) {
	e := impl.Envelope{Sustain: 1, Release: 1000}
	for _, wrong := range []int64{-1, 4001, -4000, 1 << 32, math.MinInt64, math.MaxInt64} {
		for _, right := range []int64{0, 1, 4000} {
			wantNoLevel(t, "held for a wrong count", e, wrong, right)
			wantNoLevel(t, "a wrong sample", e, right, wrong)
		}
		wantNoLevel(t, "both", e, wrong, wrong)
	}
	for part := range 3 {
		for _, samples := range wrongParts() {
			wantNoLevel(t, "a wrong envelope", envelopeWith(part, samples), 2, 1)
			wantNoLevel(t, "a wrong envelope, behind the note", envelopeWith(part, samples), 0, 4000)
		}
	}
}
