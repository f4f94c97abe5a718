package tests

import (
	"math"
	"slices"
	"testing"

	"loop.example/g01170/impl"
)

// plainEnds does what the document tells of notes that are ended, apart from the program.
func plainEnds(e impl.Envelope, notes []impl.Note, voices int64) []int64 {
	ends := make([]int64, len(notes))
	for i, n := range notes {
		var sounding []int
		for k := range i {
			if ends[k] > n.Start {
				sounding = append(sounding, k)
			}
		}
		if int64(len(sounding)) == voices {
			ends[sounding[0]] = n.Start
		}
		ends[i] = n.Start + n.Held + e.Release
	}
	return ends
}

func plainNotes(kind int64, e impl.Envelope, notes []impl.Note, voices int64, count int) []float32 {
	samples := make([]float32, count)
	for i, end := range plainEnds(e, notes, voices) {
		for at, x := range plainNote(kind, e, notes[i], count) {
			if int64(at) >= notes[i].Start && int64(at) < end {
				samples[at] = plus(samples[at], x)
			}
		}
	}
	return samples
}

func wantEnds(t *testing.T, what string, e impl.Envelope, notes []impl.Note, voices int64, want ...int64) {
	t.Helper()
	got, ok := impl.EndsOfNotes(e, notes, voices)
	if !ok || !slices.Equal(got, want) {
		t.Errorf("%s: got %v %v, want %v", what, got, ok, want)
	}
}

func wantVoices(t *testing.T, what string, kind int64, e impl.Envelope, notes []impl.Note, voices int64, want []float32) {
	t.Helper()
	got, ok := impl.RenderNotes(kind, e, notes, voices, int64(len(want)))
	wantSamples(t, what, got, ok, want)
}

// heldFor returns notes that start in pairs of a place and a count of samples.
func heldFor(pairs ...int64) []impl.Note {
	var notes []impl.Note
	for i := 0; i < len(pairs); i += 2 {
		notes = append(notes, impl.Note{Start: pairs[i], Held: pairs[i+1], Gain: 1})
	}
	return notes
}

func TestChapter5EndsByHand(t *testing.T) {
	var e impl.Envelope
	wantEnds(t, "no notes", e, nil, 1)
	wantEnds(t, "one note", e, heldFor(3, 4), 1, 7)
	wantEnds(t, "one behind the other", e, heldFor(0, 4, 4, 4), 1, 4, 8)
	wantEnds(t, "one voice", e, heldFor(0, 5, 4, 4), 1, 4, 8)
	wantEnds(t, "each one ends the one before", e, heldFor(0, 50, 1, 50, 2, 50, 9, 50), 1, 1, 2, 9, 59)
	wantEnds(t, "two voices", e, heldFor(0, 50, 1, 50, 2, 50, 9, 50), 2, 2, 9, 52, 59)
	wantEnds(t, "three voices", e, heldFor(0, 50, 1, 50, 2, 50, 9, 50), 3, 9, 51, 52, 59)
	wantEnds(t, "four voices", e, heldFor(0, 50, 1, 50, 2, 50, 9, 50), 4, 50, 51, 52, 59)
	wantEnds(t, "the first one, not the one that ends first", e, heldFor(0, 50, 1, 5, 2, 50), 2, 2, 6, 52)
	wantEnds(t, "a voice that is free again", e, heldFor(0, 50, 1, 2, 3, 50), 2, 50, 3, 53)
	wantEnds(t, "and then the first one", e, heldFor(0, 50, 1, 2, 3, 50, 4, 50), 2, 4, 3, 53, 54)
	wantEnds(t, "a note that began later on an earlier voice", e, heldFor(0, 2, 1, 50, 3, 50, 4, 50), 2, 2, 4, 53, 54)
	e.Release = 2
	wantEnds(t, "the release sounds, too", e, heldFor(0, 50, 1, 2, 4, 50), 2, 4, 5, 56)
	wantEnds(t, "until it ends", e, heldFor(0, 50, 1, 2, 5, 50), 2, 52, 5, 57)
}

func TestChapter5EndsOfNotesThatStartTogether(t *testing.T) {
	var e impl.Envelope
	wantEnds(t, "one voice", e, heldFor(7, 5, 7, 6, 7, 4), 1, 7, 7, 11)
	wantEnds(t, "two voices", e, heldFor(7, 5, 7, 6, 7, 4), 2, 7, 13, 11)
	wantEnds(t, "three voices", e, heldFor(7, 5, 7, 6, 7, 4), 3, 12, 13, 11)
	wantEnds(t, "the first one in the list", e, heldFor(0, 50, 0, 5, 3, 50), 2, 3, 5, 53)
	wantEnds(t, "two are ended at once", e, heldFor(0, 50, 1, 50, 2, 50, 2, 50), 2, 2, 2, 52, 52)
	wantEnds(t, "and one of those that end them", e, heldFor(0, 50, 1, 50, 2, 50, 2, 50, 2, 50), 2, 2, 2, 2, 52, 52)
	for voices := int64(1); voices <= 12; voices++ {
		want := slices.Concat(slices.Repeat([]int64{9}, 12-int(voices)), slices.Repeat([]int64{109}, int(voices)))
		wantEnds(t, "MaxNotes", e, heldFor(slices.Repeat([]int64{9, 100}, 12)...), voices, want...)
	}
}

func TestChapter5NotesThatNeverSoundEndOthers(t *testing.T) {
	var e impl.Envelope
	wantEnds(t, "held for 0", e, heldFor(0, 50, 5, 0, 6, 10), 1, 5, 5, 16)
	wantEnds(t, "at the same sample", e, heldFor(5, 50, 5, 0, 5, 10), 1, 5, 5, 15)
	wantEnds(t, "it is not ended", e, heldFor(0, 50, 5, 0, 5, 0, 6, 10), 2, 50, 5, 5, 16)
	wantEnds(t, "several", e, heldFor(0, 50, 1, 50, 5, 0, 5, 0, 6, 10), 2, 5, 51, 5, 5, 16)
	wantEnds(t, "a voice is free behind it", e, heldFor(0, 50, 5, 0, 6, 10, 7, 10), 2, 7, 5, 16, 17)
	e.Release = 1
	wantEnds(t, "a release of 1 sounds", e, heldFor(0, 50, 5, 0, 5, 10), 1, 5, 5, 16)
	wantEnds(t, "and is over then", e, heldFor(0, 50, 5, 0, 6, 10), 2, 51, 6, 17)
}

func TestChapter5EndsAreThoseOfTheDocument(t *testing.T) {
	ended := 0
	for seed := range 2000 {
		e, notes := envelopeOfStyle(0, 1200+seed), notesOfStyle(0, 1300+seed, seed%13)
		if seed%3 == 0 {
			e.Release = 0
		}
		for voices := int64(1); voices <= 12; voices++ {
			want := plainEnds(e, notes, voices)
			wantEnds(t, "notes", e, notes, voices, want...)
			if !slices.Equal(want, plainEnds(e, notes, 12)) {
				ended++
			}
		}
	}
	if ended < 2000 {
		t.Errorf("only %d lists have notes that are ended", ended)
	}
}

func TestChapter5VoicesByHand(t *testing.T) {
	const square = impl.WaveSquare
	e := impl.Envelope{Sustain: 1}
	notes := heldFor(0, 4, 2, 4)
	notes[1].Gain = 0.5
	wantVoices(t, "one voice", square, e, notes, 1, []float32{1, 1, 0.5, 0.5, 0.5, 0.5, 0})
	wantVoices(t, "two voices", square, e, notes, 2, []float32{1, 1, 1.5, 1.5, 0.5, 0.5, 0})
	wantVoices(t, "cut off", square, e, notes, 2, []float32{1, 1, 1.5})
	wantVoices(t, "no samples", square, e, notes, 2, nil)
	wantVoices(t, "no notes", square, e, nil, 1, make([]float32, 256))
	wantVoices(t, "neither", square, e, nil, 12, nil)
	notes[0].Gain = notANum
	wantVoices(t, "what is ended is not added", square, e, notes, 1, []float32{notANum, notANum, 0.5, 0.5, 0.5, 0.5, 0})
	wantVoices(t, "a note that never sounds", square, e, append(heldFor(0, 4), impl.Note{Start: 2, Gain: notANum}), 1, []float32{1, 1, 0, 0, 0})
	wantVoices(t, "ended at its own start", square, e, []impl.Note{{Held: 4, Gain: notANum}, {Held: 3, Gain: 2}}, 1, []float32{2, 2, 2, 0})
	wantVoices(t, "behind all samples", square, e, []impl.Note{{Held: 2, Gain: 1}, {Start: 1000, Held: 1000, Gain: 1}}, 1, []float32{1, 1, 0})
	e.Attack = 1
	wantVoices(t, "sums begin with +0", square, e, []impl.Note{{Held: 3, Gain: -1}}, 1, []float32{0, -1, -1, 0})
	e = impl.Envelope{Sustain: 1, Release: 4}
	wantVoices(t, "a note that is ended has no release", square, e, heldFor(0, 2, 3, 1), 1, []float32{1, 1, 1, 1, 1, 0.75, 0.5, 0.25, 0})
	wantVoices(t, "and one that is not has it", square, e, heldFor(0, 2, 3, 1), 2, []float32{1, 1, 1, 1.75, 1.5, 1, 0.5, 0.25, 0})
}

func TestChapter5VoicesAreAddedInOrder(t *testing.T) {
	e := impl.Envelope{Sustain: 1}
	notes := func(gains ...float32) []impl.Note {
		list := heldFor(slices.Repeat([]int64{0, 2}, len(gains))...)
		for i, gain := range gains {
			list[i].Gain = gain
		}
		return list
	}
	wantVoices(t, "from left to right", impl.WaveSquare, e, notes(0x1p24, 1, -0x1p24), 12, []float32{0, 0, 0})
	wantVoices(t, "in another order", impl.WaveSquare, e, notes(0x1p24, -0x1p24, 1), 12, []float32{1, 1, 0})
	wantVoices(t, "out of range", impl.WaveSquare, e, notes(largest, largest, -largest), 12, []float32{infinity, infinity, 0})
	wantVoices(t, "infinities", impl.WaveSquare, e, notes(infinity, -infinity), 12, []float32{notANum, notANum, 0})
	wantVoices(t, "subnormal numbers", impl.WaveSquare, e, notes(tiny, tiny, minus0), 12, []float32{2 * tiny, 2 * tiny, 0})
}

func TestChapter5ProductsOfVoicesAreRoundedOnTheirOwn(t *testing.T) {
	x := 1 + float32(1)/4096 // The product of x and x is 1, 2^-11 and 2^-24, which is rounded away.
	notes := []impl.Note{{Held: 2, Gain: -x}, {Held: 2, Gain: x}}
	wantVoices(t, "two products", impl.WaveSquare, impl.Envelope{Sustain: x}, notes, 2, []float32{0, 0, 0})
}

func TestChapter5VoicesAreThoseOfTheDocument(t *testing.T) {
	for style := range styles {
		for seed := range 150 {
			e, notes := envelopeOfStyle(style, 1400+seed), notesOfStyle(style, 1500+seed, seed%13)
			kind, count := kinds()[seed%4], lengths()[seed%len(lengths())]
			if seed%2 == 0 {
				count = 256
			}
			for _, voices := range []int64{1, 2, 3, 7, 12} {
				wantVoices(t, "voices", kind, e, notes, voices, plainNotes(kind, e, notes, voices, count))
			}
		}
	}
}

func TestChapter5NotesOfTheSameTone(t *testing.T) {
	e := impl.Envelope{Attack: 3, Decay: 9, Sustain: 0.3, Release: 20}
	for _, starts := range [][]int64{{0, 0, 0}, {0, 100, 250}, {0, 255, 256}, {10, 1000, 1000}, {300, 300, 300}} {
		notes := startsAt(starts...)
		for i := range notes {
			notes[i].Held, notes[i].Pitch, notes[i].Gain = 200, 60, float32(i)+0.3
		}
		for _, voices := range []int64{1, 2, 3} {
			wantVoices(t, "one tone", impl.WaveSaw, e, notes, voices, plainNotes(impl.WaveSaw, e, notes, voices, 256))
		}
		notes[1].Held = 201
		wantVoices(t, "held for longer", impl.WaveSaw, e, notes, 3, plainNotes(impl.WaveSaw, e, notes, 3, 256))
		notes[1].Held = 200
		for _, pitch := range []int64{0, 61, 127} {
			notes[2].Pitch = pitch
			wantVoices(t, "another pitch", impl.WaveSaw, e, notes, 3, plainNotes(impl.WaveSaw, e, notes, 3, 256))
		}
	}
}

func wantNoVoices(t *testing.T, what string, kind int64, e impl.Envelope, notes []impl.Note, voices, count int64) {
	t.Helper()
	got, ok := impl.RenderNotes(kind, e, notes, voices, count)
	wantNoList(t, what, got, ok)
}

func wantNoEnds(t *testing.T, what string, e impl.Envelope, notes []impl.Note, voices int64) {
	t.Helper()
	got, ok := impl.EndsOfNotes(e, notes, voices)
	wantNoList(t, what, got, ok)
	for _, count := range []int64{0, 1, 256} {
		wantNoVoices(t, what, impl.WaveSine, e, notes, voices, count)
	}
}

func TestChapter5WrongVoices(t *testing.T) {
	e, notes := impl.Envelope{Attack: 2, Release: 2}, heldFor(0, 5, 2, 3)
	for _, voices := range []int64{0, 13, -1, 1 << 32, 1<<32 + 1, math.MinInt64, math.MaxInt64} {
		wantNoEnds(t, "wrong voices", e, notes, voices)
		wantNoEnds(t, "wrong voices and no notes", e, nil, voices)
	}
	for _, voices := range []int64{1, 2, 12} {
		wantNoEnds(t, "too many notes", e, make([]impl.Note, 13), voices)
		wantNoEnds(t, "notes that are not in order", e, startsAt(0, 2, 1), voices)
		for _, wrong := range wrongNotes() {
			wantNoEnds(t, "a wrong note", e, []impl.Note{wrong}, voices)
			wantNoEnds(t, "one of two", e, []impl.Note{{Start: 5}, wrong}, voices)
		}
		for part := range 3 {
			for _, wrong := range wrongParts() {
				wantNoEnds(t, "a wrong envelope", envelopeWith(part, wrong), notes, voices)
				wantNoEnds(t, "a wrong envelope and no notes", envelopeWith(part, wrong), nil, voices)
			}
		}
		for _, kind := range wrongKinds() {
			wantNoVoices(t, "a wrong kind", kind, e, notes, voices, 9)
			wantNoVoices(t, "a wrong kind and no notes", kind, e, nil, voices, 0)
		}
		for _, count := range wrongCounts() {
			wantNoVoices(t, "a wrong count", impl.WaveSine, e, notes, voices, count)
			wantNoVoices(t, "a wrong count and no notes", impl.WaveSine, e, nil, voices, count)
		}
	}
}
