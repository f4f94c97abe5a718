package tests

import (
	"testing"

	"loop.example/g01170/impl"
)

// plainNote does what the document tells of the samples of a note, apart from the program.
func plainNote(kind int64, e impl.Envelope, n impl.Note, count int) []float32 {
	sound, _ := plainOscillator(impl.Oscillator{Kind: kind, Step: rawNumber(pitchBits()[n.Pitch])}, count)
	samples := make([]float32, count)
	for i := range samples {
		if at := int64(i); at >= n.Start && at < n.Start+n.Held+e.Release {
			samples[i] = times(times(sound[at-n.Start], plainLevel(e, n.Held, at-n.Start)), n.Gain)
		}
	}
	return samples
}

func wantNote(t *testing.T, what string, kind int64, e impl.Envelope, n impl.Note, want []float32) {
	t.Helper()
	got, ok := impl.RenderNote(kind, e, n, int64(len(want)))
	wantSamples(t, what, got, ok, want)
}

func startsAt(places ...int64) []impl.Note {
	var notes []impl.Note
	for _, start := range places {
		notes = append(notes, impl.Note{Start: start})
	}
	return notes
}

// wrongNotes have one field that is wrong.
func wrongNotes() []impl.Note {
	var notes []impl.Note
	for _, wrong := range wrongParts() {
		notes = append(notes, impl.Note{Start: wrong, Held: 5, Pitch: 60, Gain: 1}, impl.Note{Start: 5, Held: wrong, Pitch: 60, Gain: 1})
	}
	for _, wrong := range wrongPitches() {
		notes = append(notes, impl.Note{Start: 5, Held: 5, Pitch: wrong, Gain: 1})
	}
	return notes
}

func wantNotes(t *testing.T, what string, notes []impl.Note, want bool) {
	t.Helper()
	if impl.AreNotes(notes) != want {
		t.Errorf("%s: AreNotes of %v is not %v", what, notes, want)
	}
}

func TestChapter5AreNotes(t *testing.T) {
	wantNotes(t, "none", nil, true)
	wantNotes(t, "several at the same sample", startsAt(0, 0, 3, 3, 3, 1000, 1000), true)
	wantNotes(t, "not in order", startsAt(0, 2, 1), false)
	wantNotes(t, "the last one before the first one", startsAt(1, 1, 0), false)
	wantNotes(t, "MaxNotes", make([]impl.Note, 12), true)
	wantNotes(t, "one more", make([]impl.Note, 13), false)
	wantNotes(t, "many more", make([]impl.Note, 100000), false)
	for _, gain := range edgeNumbers() {
		for _, samples := range sevenParts() {
			for _, pitch := range []int64{0, 1, 69, 126, 127} {
				wantNotes(t, "one note", []impl.Note{{Start: samples, Held: 5, Pitch: pitch, Gain: gain}}, true)
				wantNotes(t, "one note", []impl.Note{{Start: 5, Held: samples, Pitch: pitch, Gain: gain}}, true)
			}
		}
	}
	for _, wrong := range wrongNotes() {
		wantNotes(t, "a wrong note", []impl.Note{wrong}, false)
		wantNotes(t, "one of three", []impl.Note{{Start: 5}, wrong, {Start: 5}}, false)
	}
}

func TestChapter5EndOfNote(t *testing.T) {
	for _, start := range sevenParts() {
		for _, held := range sevenParts() {
			for _, release := range sevenParts() {
				n := impl.Note{Start: start, Held: held, Pitch: 127, Gain: notANum}
				end, ok := impl.EndOfNote(impl.Envelope{Attack: 1000, Decay: 1000, Release: release}, n)
				if !ok || end != start+held+release {
					t.Errorf("a note that starts at %d, with %d and %d: %d %v", start, held, release, end, ok)
				}
			}
		}
	}
	for _, wrong := range wrongNotes() {
		end, ok := impl.EndOfNote(impl.Envelope{}, wrong)
		wantZero(t, "a wrong note", end, ok)
	}
	for part := range 3 {
		for _, wrong := range wrongParts() {
			end, ok := impl.EndOfNote(envelopeWith(part, wrong), impl.Note{Start: 5, Held: 5})
			wantZero(t, "a wrong envelope", end, ok)
		}
	}
}

func TestChapter5NotesByHand(t *testing.T) {
	const square = impl.WaveSquare
	e := impl.Envelope{Attack: 2, Decay: 2, Sustain: 0.5, Release: 2}
	n := impl.Note{Start: 2, Held: 5, Pitch: 0, Gain: 4}
	wantNote(t, "a note", square, e, n, []float32{0, 0, 0, 2, 4, 3, 2, 2, 1, 0, 0})
	wantNote(t, "cut off", square, e, n, []float32{0, 0, 0, 2})
	wantNote(t, "cut off before its start", square, e, n, []float32{0})
	wantNote(t, "no samples", square, e, n, nil)
	n.Gain = -4
	wantNote(t, "-0 is not before the start", square, e, n, []float32{0, 0, minus0, -2, -4, -3, -2, -2, -1, 0, 0})
	n.Gain = infinity
	wantNote(t, "an infinity", square, e, n, []float32{0, 0, notANum, infinity, infinity, infinity, infinity, infinity, infinity, 0, 0})
	n.Gain = notANum
	wantNote(t, "a not-a-number", square, e, n, append([]float32{0, 0}, append(repeated(notANum, 7), 0, 0)...))
	wantNote(t, "held for 0", square, impl.Envelope{Sustain: 1, Release: 2}, impl.Note{Start: 1, Gain: 1}, []float32{0, 1, 0.5, 0, 0})
	wantNote(t, "held for 0, no release", square, impl.Envelope{Sustain: 1}, impl.Note{Start: 1, Gain: notANum}, make([]float32, 5))
	wantNote(t, "behind all samples", square, impl.Envelope{Sustain: 1}, impl.Note{Start: 256, Held: 9, Gain: 1}, make([]float32, 256))
	wantNote(t, "the last sample", square, impl.Envelope{Sustain: 1}, impl.Note{Start: 255, Held: 9, Gain: 1}, append(make([]float32, 255), 1))
	wantNote(t, "to the last sample", square, impl.Envelope{Sustain: 1}, impl.Note{Held: 255, Gain: 1}, append(repeated(1, 255), 0))
}

func TestChapter5NotesBeginWithThePhaseZero(t *testing.T) {
	for _, start := range []int64{0, 1, 100, 252} {
		want := make([]float32, 256)
		step, _ := impl.StepOfPitch(127)
		copy(want[start:], []float32{-1, plus(times(2, step), -1), plus(times(4, step), -1), plus(times(2, plus(times(2, step), step)), -1)})
		wantNote(t, "a saw", impl.WaveSaw, impl.Envelope{Sustain: 1}, impl.Note{Start: start, Held: 4, Pitch: 127, Gain: 1}, want)
	}
}

func TestChapter5NotesAreMultipliedInOrder(t *testing.T) {
	e := impl.Envelope{Sustain: largest}
	want := make([]float32, 4)
	for i := range want {
		saw, _ := impl.WaveAt(impl.WaveSaw, times(float32(i), rawNumber(pitchBits()[127])))
		want[i] = times(times(saw, largest), 1.25)
	}
	wantNote(t, "the Gain comes last", impl.WaveSaw, e, impl.Note{Held: 4, Pitch: 127, Gain: 1.25}, want)
	if want[0] != -infinity || want[2] >= infinity {
		t.Errorf("the products are %v", want)
	}
}

// envelopeOfStyle has short parts or long ones.
func envelopeOfStyle(style, seed int) impl.Envelope {
	most := []uint32{9, 60, 1001}[mixedBits(seed, 0)%3]
	part := func(i int) int64 { return int64(mixedBits(seed, i) % most) }
	return impl.Envelope{Attack: part(1), Decay: part(2), Sustain: gainsOfStyle(style, seed, 1)[0], Release: part(3)}
}

// notesOfStyle start near each other or far apart, and several have the same pitch.
func notesOfStyle(style, seed, count int) []impl.Note {
	apart, held := []uint32{1, 3, 30, 90}[mixedBits(seed, 0)%4], []uint32{1, 5, 60, 300, 1001}[mixedBits(seed, 1)%5]
	notes := make([]impl.Note, count)
	start := int64(0)
	for i, gain := range gainsOfStyle(style, seed, count) {
		bits := mixedBits(seed, 100+i)
		start = min(start+int64(bits%apart), 1000)
		pitch := int64((bits >> 8) % 128)
		if (bits>>16)%2 == 0 {
			pitch = 60
		}
		notes[i] = impl.Note{Start: start, Held: int64((bits >> 4) % held), Pitch: pitch, Gain: gain}
	}
	return notes
}

func TestChapter5NotesAreThoseOfTheDocument(t *testing.T) {
	for style := range styles {
		for _, kind := range kinds() {
			for i, count := range lengths() {
				for seed := range 6 {
					e := envelopeOfStyle(style, 900+10*i+seed)
					for _, n := range notesOfStyle(style, 1000+10*i+seed, 3) {
						wantNote(t, "a note", kind, e, n, plainNote(kind, e, n, count))
					}
				}
			}
		}
	}
	for pitch := range int64(128) {
		n := impl.Note{Start: pitch, Held: 200, Pitch: pitch, Gain: 0.7}
		e := impl.Envelope{Attack: 3, Decay: 50, Sustain: 0.3, Release: 40}
		wantNote(t, "each pitch", pitch%4, e, n, plainNote(pitch%4, e, n, 256))
	}
}

func wantNoNote(t *testing.T, what string, kind int64, e impl.Envelope, n impl.Note, count int64) {
	t.Helper()
	got, ok := impl.RenderNote(kind, e, n, count)
	wantNoList(t, what, got, ok)
}

func TestChapter5WrongNotes(t *testing.T) {
	e, n := impl.Envelope{Attack: 2, Release: 2}, impl.Note{Start: 1, Held: 3, Pitch: 60, Gain: 1}
	for _, count := range []int64{0, 1, 256} {
		for _, kind := range wrongKinds() {
			wantNoNote(t, "a wrong kind", kind, e, n, count)
		}
		for part := range 3 {
			for _, wrong := range wrongParts() {
				wantNoNote(t, "a wrong envelope", impl.WaveSine, envelopeWith(part, wrong), n, count)
			}
		}
		for _, wrong := range wrongNotes() {
			wantNoNote(t, "a wrong note", impl.WaveSquare, e, wrong, count)
		}
	}
	for _, count := range wrongCounts() {
		wantNoNote(t, "a wrong count", impl.WaveSaw, e, n, count)
	}
}

func TestChapter5NotesOfTestsAreMixed(t *testing.T) {
	same, zero := 0, 0
	for seed := range 200 {
		notes := notesOfStyle(0, seed, 12)
		wantNotes(t, "notes of tests", notes, true)
		for i, n := range notes[1:] {
			if n.Start == notes[i].Start {
				same++
			}
			if n.Held == 0 {
				zero++
			}
		}
	}
	if same < 300 || zero < 300 {
		t.Errorf("%d starts are the same, and %d notes are held for 0", same, zero)
	}
}
