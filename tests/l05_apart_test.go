package tests

import (
	"testing"

	"loop.example/g01170/impl"
)

// soundRow has the check numbers of the texts of 256 samples of one kind, and the bits of the phase behind them.
type soundRow struct {
	kind              int64
	scale             float32
	run, note, voices int64
	phase             uint32
}

// soundRows were computed apart from the program.
func soundRows() []soundRow {
	return []soundRow{
		{0, 1, 45942, 6972, 36693, 0x3f6666cb},
		{1, 1, 4289, 37333, 14549, 0x3f6666cb},
		{2, 1, 44894, 3695, 29290, 0x3f6666cb},
		{3, 1, 59456, 35389, 64353, 0x3f6666cb},
		{0, 0x1p-131, 45942, 17458, 2974, 0x3f6666cb},
		{1, 0x1p-131, 4289, 24442, 12590, 0x3f6666cb},
		{2, 0x1p-131, 44894, 19214, 12713, 0x3f6666cb},
		{3, 0x1p-131, 59456, 19176, 43452, 0x3f6666cb},
	}
}

// playedRow has the check numbers of the texts of 256 results, and the places behind them.
type playedRow struct {
	scale          float32
	played, looped int64
	place, inLoop  int64
}

// playedRows were computed apart from the program.
func playedRows() []playedRow {
	return []playedRow{
		{1, 31440, 45911, 13918521, 2829902},
		{0x1p-131, 32376, 40643, 13918521, 2829902},
	}
}

// notesApart are twelve notes with any gains.
func notesApart(scale float32) []impl.Note {
	notes := make([]impl.Note, 12)
	for i, gain := range scaled(mixedSamples(870, 12), scale) {
		n := int64(i)
		notes[i] = impl.Note{Start: 15 * n, Held: 40 + 10*n, Pitch: (37*n + 40) % 128, Gain: gain}
	}
	return notes
}

func TestChapter5SoundsComputedApart(t *testing.T) {
	e := impl.Envelope{Attack: 30, Decay: 40, Sustain: 0.6, Release: 50}
	for _, want := range soundRows() {
		run, o, _ := impl.RunOscillator(impl.Oscillator{Kind: want.kind, Step: 0.3, Phase: 0.1}, 256)
		notes := notesApart(want.scale)
		note, _ := impl.RenderNote(want.kind, e, notes[5], 256)
		voices, _ := impl.RenderNotes(want.kind, e, notes, 3, 256)
		got := soundRow{want.kind, want.scale, checkOfSamples(t, run), checkOfSamples(t, note), checkOfSamples(t, voices), oneBits(o.Phase)}
		if got != want {
			t.Errorf("got %v, want %v", got, want)
		}
	}
	wantEnds(t, "computed apart", e, notesApart(1), 3, 45, 60, 75, 90, 105, 120, 135, 150, 165, 315, 340, 365)
}

func TestChapter5RecordingsComputedApart(t *testing.T) {
	for _, want := range playedRows() {
		x := scaled(mixedSamples(871, 256), want.scale)
		played, place, _ := impl.PlayRecording(x, 12345, 54321, 256)
		looped, inLoop, _ := impl.PlayLoop(x, 40, 99, 12345678, 98765, 256)
		got := playedRow{want.scale, checkOfSamples(t, played), checkOfSamples(t, looped), place, inLoop}
		if got != want {
			t.Errorf("got %v, want %v", got, want)
		}
	}
}
