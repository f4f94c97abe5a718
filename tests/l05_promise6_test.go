package tests

import (
	"testing"

	"loop.example/g01170/impl"
)

func soundingOfOscillator(o impl.Oscillator) sounding {
	return onOneLine("an oscillator", []float32{o.Phase}, func(line []float32, before int, x []float32) ([]float32, []float32, bool) {
		samples, last, ok := impl.RunOscillator(impl.Oscillator{Kind: o.Kind, Step: o.Step, Phase: line[0]}, int64(len(x)))
		return samples, []float32{last.Phase}, ok && last.Kind == o.Kind && oneBits(last.Step) == oneBits(o.Step)
	})
}

// lineOfPlace has a place in two numbers, as one of them could not hold it exactly.
func lineOfPlace(place int64) []float32 { return []float32{float32(place / one), float32(place % one)} }

func placeOfLine(line []float32) int64 { return int64(line[0])*one + int64(line[1]) }

func soundingOfPlayer(recording []float32, from, step int64) sounding {
	return onOneLine("a player", lineOfPlace(from), func(line []float32, before int, x []float32) ([]float32, []float32, bool) {
		results, place, ok := impl.PlayRecording(recording, placeOfLine(line), step, int64(len(x)))
		return results, lineOfPlace(place), ok
	})
}

func soundingOfLoop(recording []float32, first, behind, from, step int64) sounding {
	return onOneLine("a loop", lineOfPlace(from), func(line []float32, before int, x []float32) ([]float32, []float32, bool) {
		results, place, ok := impl.PlayLoop(recording, first, behind, placeOfLine(line), step, int64(len(x)))
		return results, lineOfPlace(place), ok
	})
}

func wantGoesOn(t *testing.T, s sounding, count int) {
	t.Helper()
	wantCutAnywhere(t, s, make([]float32, count))
	wantCutIntoBlocks(t, s, make([]float32, count))
}

func TestPromise6OscillatorsGoOn(t *testing.T) {
	for _, kind := range kinds() {
		for i, step := range append(phases()[:20], rawNumber(pitchBits()[69]), rawNumber(pitchBits()[127])) {
			for _, phase := range []float32{0, minus0, belowOne, phases()[(7*i)%len(phases())]} {
				wantGoesOn(t, soundingOfOscillator(impl.Oscillator{Kind: kind, Step: step, Phase: phase}), 256)
			}
		}
	}
}

// playedWithin is how many results end at a place from which a player can go on.
func playedWithin(from, step int64) int {
	count := int64(256)
	if step > 0 {
		count = min(count, (256*one-from)/step)
	}
	return int(count)
}

func TestPromise6PlayersGoOn(t *testing.T) {
	for style := range styles {
		for i, count := range []int{1, 3, 100, 256} {
			x := samplesOfStyle(style, 850+i, count)
			for _, step := range stepsOfPlaces() {
				for _, from := range []int64{0, 1, one / 2, int64(count)*one - 1, 200 * one} {
					wantGoesOn(t, soundingOfPlayer(x, from, step), playedWithin(from, step))
				}
			}
		}
	}
}

func TestPromise6LoopsGoOn(t *testing.T) {
	for style := range styles {
		for i, count := range []int{1, 3, 256} {
			x := samplesOfStyle(style, 860+i, count)
			for _, loop := range loopsIn(count) {
				for k, step := range stepsOfPlaces() {
					from := placesIn(count)[(i+k)%len(placesIn(count))]
					wantGoesOn(t, soundingOfLoop(x, loop[0], loop[1], from, step), 256)
				}
			}
		}
	}
}

// soundingAt counts the notes that sound at a sample.
func soundingAt(at int64, notes []impl.Note, ends []int64) int64 {
	count := int64(0)
	for i, n := range notes {
		if n.Start <= at && at < ends[i] {
			count++
		}
	}
	return count
}

func wantAtMost(t *testing.T, e impl.Envelope, notes []impl.Note, voices int64) {
	t.Helper()
	ends, ok := impl.EndsOfNotes(e, notes, voices)
	if !ok || len(ends) != len(notes) {
		t.Fatalf("%d ends %v of %d notes", len(ends), ok, len(notes))
	}
	for at := range int64(3001) {
		if count := soundingAt(at, notes, ends); count > voices {
			t.Fatalf("%d notes sound at %d with %d voices: %v", count, at, voices, notes)
		}
	}
}

func TestPromise6NoMoreNotesThanVoices(t *testing.T) {
	for seed := range 200 {
		e, notes := envelopeOfStyle(0, 1600+seed), notesOfStyle(0, 1700+seed, seed%13)
		for voices := int64(1); voices <= 12; voices++ {
			wantAtMost(t, e, notes, voices)
		}
	}
}

func TestPromise6NotesAreEndedOnlyIfAllVoicesSound(t *testing.T) {
	ended := 0
	for seed := range 500 {
		e, notes := envelopeOfStyle(0, 1800+seed), notesOfStyle(0, 1900+seed, 1+seed%12)
		e.Release = max(e.Release, 1) // Each note sounds, also the one that ends another one.
		voices := int64(1 + seed%5)
		ends, _ := impl.EndsOfNotes(e, notes, voices)
		for i, n := range notes {
			whole, ok := impl.EndOfNote(e, n)
			if !ok || ends[i] > whole || ends[i] < n.Start {
				t.Errorf("a note from %d to %d ends at %d", n.Start, whole, ends[i])
			}
			if ends[i] == whole {
				continue
			}
			ended++
			if soundingAt(ends[i], notes, ends) != voices {
				t.Errorf("a note is ended at %d, but not all of %d voices sound: %v", ends[i], voices, notes)
			}
		}
	}
	if ended < 500 {
		t.Errorf("only %d notes are ended", ended)
	}
}

func TestPromise6EachSampleHasTheNotesThatSound(t *testing.T) {
	e := impl.Envelope{Sustain: 1}
	for seed := range 300 {
		notes := notesOfStyle(0, 2000+seed, seed%13)
		for i := range notes {
			// A square of the lowest pitch is 1 for all samples.
			notes[i].Pitch, notes[i].Gain = 0, 1
		}
		for voices := int64(1); voices <= 12; voices++ {
			ends, _ := impl.EndsOfNotes(e, notes, voices)
			samples, ok := impl.RenderNotes(impl.WaveSquare, e, notes, voices, 256)
			want := make([]float32, 256)
			for at := range want {
				want[at] = float32(soundingAt(int64(at), notes, ends))
				if want[at] > float32(voices) {
					t.Errorf("%v notes sound with %d voices", want[at], voices)
				}
			}
			wantSamples(t, "notes that sound", samples, ok, want)
		}
	}
}

func TestPromise6EnoughVoicesEndNothing(t *testing.T) {
	for seed := range 200 {
		e, notes := envelopeOfStyle(0, 2100+seed), notesOfStyle(0, 2200+seed, seed%13)
		var want []int64
		for _, n := range notes {
			end, _ := impl.EndOfNote(e, n)
			want = append(want, end)
		}
		for voices := max(1, int64(len(notes))); voices <= 12; voices++ {
			wantEnds(t, "a voice for each note", e, notes, voices, want...)
		}
	}
}
