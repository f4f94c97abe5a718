package tests

import (
	"math"
	"reflect"
	"slices"
	"testing"

	"loop.example/g01170/impl"
)

func oscillatorOutcome(samples []float32, o impl.Oscillator, ok bool) []any {
	return plain(samples, o.Kind, o.Step, o.Phase, ok)
}

func playedOutcome(results []float32, place int64, ok bool) []any { return plain(results, place, ok) }

func guardNotes(list []impl.Note) guarded[impl.Note] {
	return guard(list, impl.Note{Start: -77}, func(a, b []impl.Note) bool {
		return slices.EqualFunc(a, b, func(n, m impl.Note) bool {
			sameGain := math.Float32bits(n.Gain) == math.Float32bits(m.Gain)
			n.Gain, m.Gain = 0, 0
			return sameGain && n == m
		})
	})
}

// anyCounts are right and wrong ones of kinds, pitches, voices, samples held and samples.
func anyCounts() []int64 {
	return append(anyIntegers(), 3, 4, 12, 13, 127, 128, 255, 256, 257, 999, 1000, 1001, 4000, 4001)
}

func anyKinds() []int64 { return append(kinds(), wrongKinds()...) }

func anyEnvelopes() []impl.Envelope {
	list := []impl.Envelope{{}, {Sustain: notANum}, {Attack: 1000, Decay: 1000, Sustain: infinity, Release: 1000}, {Attack: -1}, {Decay: 1001}, {Release: -1}}
	for seed := range 6 {
		list = append(list, envelopeOfStyle(seed%styles, 2300+seed))
	}
	for _, wrong := range wrongParts() {
		list = append(list, impl.Envelope{Attack: wrong, Decay: wrong, Sustain: 1, Release: wrong})
	}
	return list
}

func anyNotes() [][]impl.Note {
	list := [][]impl.Note{nil, {}, startsAt(0, 0, 0), startsAt(2, 1), make([]impl.Note, 12), make([]impl.Note, 13), make([]impl.Note, 100000)}
	for seed := range 20 {
		list = append(list, notesOfStyle(seed%styles, 2400+seed, seed%14))
	}
	for _, wrong := range wrongNotes() {
		list = append(list, []impl.Note{wrong}, []impl.Note{{}, wrong})
	}
	return list
}

func TestPromise1FunctionsOfOscillators(t *testing.T) {
	numbers := append(edgeNumbers(), belowOne, -belowOne, 0.3)
	for _, kind := range anyKinds() {
		for _, phase := range numbers {
			wantTwice(t, "WaveAt", func() []any { return outcome(impl.WaveAt(kind, phase)) })
			for _, step := range numbers {
				o := impl.Oscillator{Kind: kind, Step: step, Phase: phase}
				for _, count := range []int64{-1, 0, 5, 256, 257} {
					wantTwice(t, "RunOscillator", func() []any { return oscillatorOutcome(impl.RunOscillator(o, count)) })
				}
				wantTwice(t, "ValidOscillator", func() []any { return plain(impl.ValidOscillator(o)) })
			}
		}
		for _, count := range anyCounts() {
			o := impl.Oscillator{Kind: kind, Step: 0.3, Phase: 0.1}
			wantTwice(t, "RunOscillator", func() []any { return oscillatorOutcome(impl.RunOscillator(o, count)) })
		}
	}
	for _, pitch := range anyCounts() {
		wantTwice(t, "StepOfPitch", func() []any { return outcome(impl.StepOfPitch(pitch)) })
	}
}

func TestPromise1FunctionsOfEnvelopes(t *testing.T) {
	for _, e := range anyEnvelopes() {
		wantTwice(t, "ValidEnvelope", func() []any { return plain(impl.ValidEnvelope(e)) })
		for _, held := range anyCounts() {
			for _, n := range anyCounts() {
				wantTwice(t, "LevelAt", func() []any { return outcome(impl.LevelAt(e, held, n)) })
			}
		}
	}
}

func TestPromise1FunctionsOfNotes(t *testing.T) {
	for _, list := range anyNotes() {
		notes := guardNotes(list)
		wantTwice(t, "AreNotes", func() []any { return plain(impl.AreNotes(notes.list)) })
		for i, e := range anyEnvelopes() {
			for _, voices := range []int64{-1, 0, 1, 2, 12, 13} {
				wantTwice(t, "EndsOfNotes", func() []any { return outcome(impl.EndsOfNotes(e, notes.list, voices)) })
				for k, count := range []int64{-1, 0, 100, 256, 257} {
					kind := anyKinds()[(i+k)%len(anyKinds())]
					wantTwice(t, "RenderNotes", func() []any { return outcome(impl.RenderNotes(kind, e, notes.list, voices, count)) })
				}
			}
		}
		if !notes.isUntouched() {
			t.Errorf("%d notes were modified", len(list))
		}
	}
}

func TestPromise1FunctionsOfOneNote(t *testing.T) {
	for _, list := range anyNotes() {
		for _, n := range list[:min(len(list), 3)] {
			for _, e := range anyEnvelopes() {
				wantTwice(t, "EndOfNote", func() []any { return outcome(impl.EndOfNote(e, n)) })
				for _, kind := range anyKinds() {
					for _, count := range []int64{-1, 0, 100, 256, 257} {
						wantTwice(t, "RenderNote", func() []any { return outcome(impl.RenderNote(kind, e, n, count)) })
					}
				}
			}
		}
	}
	n, e := impl.Note{Held: 5, Pitch: 60, Gain: 1}, impl.Envelope{Sustain: 1}
	for _, count := range anyCounts() {
		wantTwice(t, "any count", func() []any {
			return slices.Concat(outcome(impl.RenderNote(impl.WaveSine, e, n, count)), outcome(impl.RenderNotes(impl.WaveSine, e, []impl.Note{n}, count, 9)),
				outcome(impl.RenderNotes(impl.WaveSine, e, []impl.Note{n}, 1, count)), outcome(impl.EndsOfNotes(e, []impl.Note{n}, count)))
		})
	}
}

func anyPlaces() []int64 {
	return append(anyIntegers(), one-1, one, 10*one, 10*one+1, 256*one, 256*one+1)
}

func TestPromise1Players(t *testing.T) {
	for _, list := range anyLists() {
		x := guardNumbers(list)
		for _, from := range anyPlaces() {
			for _, step := range anyPlaces() {
				for _, count := range []int64{-1, 0, 3, 257} {
					wantTwice(t, "players", func() []any {
						return slices.Concat(playedOutcome(impl.PlayRecording(x.list, from, step, count)),
							playedOutcome(impl.PlayLoop(x.list, 0, int64(len(list)), from, step, count)))
					})
				}
			}
		}
		for _, first := range anyCounts() {
			for _, behind := range append(anyCounts(), int64(len(list)), first+1) {
				wantTwice(t, "PlayLoop", func() []any { return playedOutcome(impl.PlayLoop(x.list, first, behind, 256*one, one/3, 9)) })
			}
		}
		for _, count := range anyCounts() {
			wantTwice(t, "PlayRecording", func() []any { return playedOutcome(impl.PlayRecording(x.list, 0, 10*one, count)) })
		}
		if !x.isUntouched() {
			t.Errorf("%d samples were modified", len(list))
		}
	}
}

func TestPromise1VoicesShareNoMemory(t *testing.T) {
	for _, count := range []int64{0, 1, 8, 256} {
		x, notes := guardNumbers(mixedSamples(int(count), 256)), guardNotes(notesOfStyle(0, 2500, 12))
		e, o := envelopeOfStyle(0, 2501), impl.Oscillator{Step: 0.3}
		run, _, _ := impl.RunOscillator(o, count)
		again, _, _ := impl.RunOscillator(o, count)
		note, _ := impl.RenderNote(impl.WaveSaw, e, notes.list[0], count)
		other, _ := impl.RenderNote(impl.WaveSaw, e, notes.list[0], count)
		mixed, _ := impl.RenderNotes(impl.WaveSaw, e, notes.list, 3, count)
		single, _ := impl.RenderNotes(impl.WaveSaw, e, notes.list[:1], 1, count)
		played, _, _ := impl.PlayRecording(x.list, 0, one, count)
		looped, _, _ := impl.PlayLoop(x.list, 0, 256, 0, one, count)
		wantOwnMemory(t, "voices", run, again, note, other, mixed, single, played, looped)
		ends, _ := impl.EndsOfNotes(e, notes.list, 3)
		kept, _ := impl.EndsOfNotes(e, notes.list, 3)
		before := slices.Clone(kept)
		clear(ends[:cap(ends)])
		if !slices.Equal(kept, before) || !x.isUntouched() || !notes.isUntouched() {
			t.Errorf("a result with %d samples shares memory", count)
		}
	}
}

func TestPromise1VoicesOfNilAndEmptyLists(t *testing.T) {
	e := impl.Envelope{Sustain: 1}
	for i, pair := range [][2][]any{
		{plain(impl.AreNotes(nil)), plain(impl.AreNotes([]impl.Note{}))},
		{outcome(impl.EndsOfNotes(e, nil, 1)), outcome(impl.EndsOfNotes(e, []impl.Note{}, 1))},
		{outcome(impl.RenderNotes(0, e, nil, 1, 5)), outcome(impl.RenderNotes(0, e, []impl.Note{}, 1, 5))},
	} {
		if !reflect.DeepEqual(pair[0], pair[1]) || pair[0][len(pair[0])-1] != true {
			t.Errorf("pair %d: %v and %v", i, pair[0], pair[1])
		}
	}
	if !reflect.DeepEqual(playedOutcome(impl.PlayRecording(nil, 0, 1, 1)), playedOutcome(impl.PlayRecording([]float32{}, 0, 1, 1))) {
		t.Error("no recording, and an empty one")
	}
}
