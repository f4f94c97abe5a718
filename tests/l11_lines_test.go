package tests

import (
	"fmt"
	"slices"
	"strings"
	"testing"

	"loop.example/g01170/impl"
)

// plainText is the text of numbers, written apart from the program.
func plainText(list ...float32) string {
	var words []string
	for _, x := range list {
		words = append(words, fmt.Sprintf("%08x", oneBits(x)))
	}
	if len(words) == 0 {
		return "none"
	}
	return strings.Join(words, ",")
}

// newTrack is a track like that of EmptySession.
func newTrack() impl.Strip { return impl.Strip{Pan: 0.5} }

// wantLine is for a line at a session. It returns the session behind the line.
func wantLine(t *testing.T, s impl.Session, line, output string, want impl.Session) impl.Session {
	t.Helper()
	got, said, ok := impl.ConsoleCommand(s, line)
	if !ok || said != output {
		t.Errorf("%.100q: got %.100q %v, want %.100q", line, said, ok, output)
	}
	wantSession(t, fmt.Sprintf("behind %.100q", line), got, ok, want)
	return got
}

// wantSaid is for lines that change nothing.
func wantSaid(t *testing.T, s impl.Session, output string, lines ...string) {
	t.Helper()
	for _, line := range lines {
		wantLine(t, s, line, output, s)
	}
}

// withClip has one more clip in a session.
func withClip(s impl.Session, c impl.Clip) impl.Session {
	s.Clips = append(slices.Clone(s.Clips), c)
	return s
}

// withStrip has another strip for a track.
func withStrip(s impl.Session, track int64, strip impl.Strip) impl.Session {
	s.Strips = slices.Clone(s.Strips)
	s.Strips[track] = strip
	return s
}

func TestChapter11EmptySession(t *testing.T) {
	wantSession(t, "EmptySession", impl.EmptySession(), true, impl.Session{Strips: []impl.Strip{newTrack()}})
	wantSaid(t, impl.EmptySession(), "0", "length", "cost")
	wantSaid(t, impl.EmptySession(), "00000000,00000000 00000000,00000000", "bounce 2")
}

func TestChapter11Example(t *testing.T) {
	s := wantLine(t, impl.EmptySession(), "clip 0 1 3f800000", "0", withClip(impl.EmptySession(), clipOf(0, 1, 1)))
	s = wantLine(t, s, "pan 0 00000000", "ok", sessionWith(1, clipOf(0, 1, 1)))
	wantSaid(t, s, "00000000,3f800000 00000000,00000000", "bounce 2")
	wantSaid(t, s, "2", "length")
	wantScript(t, impl.EmptySession(), "clip 0 1 3f800000\npan 0 00000000\nbounce 2\nlength\n", "0\nok\n00000000,3f800000 00000000,00000000\n2\n", s)
}

func TestChapter11NewTracks(t *testing.T) {
	s := threeClips()
	for tracks := 2; tracks < 8; tracks++ {
		more := withStrips(s, append(slices.Clone(s.Strips), newTrack())...)
		s = wantLine(t, s, "track", fmt.Sprint(tracks), more)
	}
	wantSaid(t, s, "no", "track")
	s = impl.EmptySession()
	for tracks := 1; tracks < 8; tracks++ {
		s = wantLine(t, s, "track", fmt.Sprint(tracks), impl.Session{Strips: slices.Repeat([]impl.Strip{newTrack()}, tracks+1)})
	}
	wantSaid(t, s, "no", "track")
}

func TestChapter11NewClips(t *testing.T) {
	s := threeClips()
	for i, c := range []impl.Clip{
		clipOf(0, 0, 1), clipOf(1, 256, 1, 2), clipOf(0, 7), clipOf(1, 0, minus0, tiny, -tiny, notANum, -infinity, largest),
		clipOf(1, 256), clipOf(0, 255, mixedSamples(1, 256)...), clipOf(0, 1, repeated(notANum, 256)...),
	} {
		line := fmt.Sprintf("clip %d %d %s", c.Track, c.At, plainText(c.Samples...))
		s = wantLine(t, s, line, fmt.Sprint(3+i), withClip(s, c))
	}
	wantSaid(t, s, "no", "clip 0 257 3f800000", "clip 0 -1 3f800000", "clip 2 0 3f800000", "clip -1 0 3f800000", "clip 0 257 none", "clip 2 0 none")
	wantSaid(t, s, "no", "clip 0 0 "+plainText(repeated(1, 257)...), "clip 0 0 "+strings.Repeat("3f800000,", 100000)+"3f800000")
	wantSaid(t, s, "no", "clip 0 9007199254740993 none", "clip 4294967296 0 none", "clip 0 4294967296 none")
}

func TestChapter11AsManyClipsAsAreAllowed(t *testing.T) {
	for _, line := range []string{"clip 0 3 3f800000", "clip 0 0 none", "tone 0 3 square 69"} {
		s := impl.EmptySession()
		for i := range 12 {
			next, output, ok := impl.ConsoleCommand(s, line)
			if output != fmt.Sprint(i) || !ok || len(next.Clips) != i+1 {
				t.Errorf("%s: clip %d: %q", line, i, output)
			}
			s = next
		}
		wantSaid(t, s, "no", "clip 0 3 3f800000", "clip 0 0 none", "tone 0 3 square 69", "repeat 0 1")
	}
}

func TestChapter11TonesByHand(t *testing.T) {
	levels := []float32{0, 0.25, 0.5, 0.75, 1, 0.875, 0.75, 0.625, 0.5, 0.5, 0.5, 0.5, 0.5, 0.5, 0.5, 0.5, 0.5, 0.4375, 0.375, 0.3125, 0.25, 0.1875, 0.125, 0.0625}
	s := threeClips()
	// The first half of this wave has more than 24 samples.
	s = wantLine(t, s, "tone 1 5 square 69", "3", withClip(s, clipOf(1, 5, levels...)))
	want := slices.Clone(levels)
	for i := range want {
		want[i] = times(want[i], plus(times(2, phaseOf(t, 60, i)), -1))
	}
	s = wantLine(t, s, "tone 0 256 saw 60", "4", withClip(s, clipOf(0, 256, want...)))
	for i := range want {
		want[i] = times(levels[i], impl.SineTurns(phaseOf(t, 127, i)))
	}
	s = wantLine(t, s, "tone 0 0 sine 127", "5", withClip(s, clipOf(0, 0, want...)))
	for i := range want {
		want[i] = times(levels[i], plus(times(4, plainSize(plus(phaseOf(t, 0, i), -0.5))), -1))
	}
	wantLine(t, s, "tone 0 1 triangle 0", "6", withClip(s, clipOf(0, 1, want...)))
}

// phaseOf is the phase of an oscillator behind some samples.
func phaseOf(t *testing.T, pitch int64, samples int) float32 {
	t.Helper()
	step, ok := impl.StepOfPitch(pitch)
	if !ok {
		t.Fatalf("the pitch %d is refused", pitch)
	}
	var phase float32
	for range samples {
		if phase = plus(phase, step); phase >= 1 {
			phase = plus(phase, -1)
		}
	}
	return phase
}

func TestChapter11TonesAreNotes(t *testing.T) {
	names := []string{impl.WaveSine: "sine", impl.WaveSaw: "saw", impl.WaveSquare: "square", impl.WaveTriangle: "triangle"}
	for kind, name := range names {
		for pitch := int64(-2); pitch < 131; pitch++ {
			line := fmt.Sprintf("tone 0 7 %s %d", name, pitch)
			e := impl.Envelope{Attack: 4, Decay: 4, Sustain: 0.5, Release: 8}
			samples, ok := impl.RenderNote(int64(kind), e, impl.Note{Held: 16, Pitch: pitch, Gain: 1}, 24)
			if pitch < 0 || pitch > 127 {
				wantSaid(t, exampleSession(), "no", line)
				continue
			}
			if !ok {
				t.Fatalf("%s is no note", line)
			}
			wantLine(t, exampleSession(), line, "2", withClip(exampleSession(), clipOf(0, 7, samples...)))
		}
	}
	s := exampleSession()
	wantSaid(t, s, "no", "tone 1 0 saw 60", "tone -1 0 saw 60", "tone 0 257 saw 60", "tone 0 -1 saw 60", "tone 0 0 saw 4294967356")
	wantSaid(t, s, "no", "tone 0 0 Saw 60", "tone 0 0 SINE 60", "tone 0 0 sinE 60", "tone 0 0 horn 60", "tone 0 0  60", "tone 0 0 0 60", "tone 0 0 squares 60", "tone 0 0 squar 60")
}

func TestChapter11Chains(t *testing.T) {
	s := threeClips()
	strip := s.Strips[0]
	strip.Effects = oneOfEach()
	wantLine(t, s, "chain 0 "+textOfEach, "ok", withStrip(s, 0, strip))
	strip.Effects = nil
	wantLine(t, s, "chain 0 none", "ok", withStrip(s, 0, strip))
	strip.Effects = slices.Repeat(chainOf(limitAt(32, 1, notANum)), 8)
	full := strings.Repeat(";6.32.3f800000,7fc00000", 8)[1:]
	wantLine(t, s, "chain 0 "+full, "ok", withStrip(s, 0, strip))
	strip = s.Strips[1]
	strip.Effects = chainOf(bend(), gainBy(minus0))
	wantLine(t, s, "chain 1 5.0.none;0.0.80000000", "ok", withStrip(s, 1, strip))
	wantSaid(t, s, "no", "chain 0 "+full+";5.0.none", "chain 0 ", "chain 0 5.0.none;", "chain 0 5.0.none;none", "chain 0 5.1.none", "chain 0 7.0.none", "chain 0 None")
	wantSaid(t, s, "no", "chain 0 6.0.00000000,00000000", "chain 0 2.0.00000000,00000000", "chain 0 0.0.3F800000", "chain 0 0.0.none", "chain 0 "+strings.Repeat("5.0.none;", 100000)+"5.0.none")
	wantSaid(t, s, "no", "chain 2 none", "chain -1 none", "chain 8 5.0.none", "chain 4294967296 none")
	wantSaid(t, s, "what", "chain 0 5.0.none; 5.0.none", "chain 0 5.0.none ;5.0.none", "chain 0 none ")
}

func TestChapter11Gains(t *testing.T) {
	s := threeClips()
	for _, tenths := range []int64{-2000, -1999, -1, 0, 1, 35, 1999, 2000} {
		for track, strip := range s.Strips {
			strip.Tenths = tenths
			wantLine(t, s, fmt.Sprintf("gain %d %d", track, tenths), "ok", withStrip(s, int64(track), strip))
		}
	}
	wantSaid(t, s, "no", "gain 0 -2001", "gain 0 2001", "gain 1 1000000000000000", "gain 1 -1000000000000000", "gain 0 4294967296", "gain 2 0", "gain -1 0", "gain 8 0")
}

func TestChapter11Pans(t *testing.T) {
	s := threeClips()
	for _, pan := range append(pansOf(12900, 50), 0, minus0, tiny, 0.25, 0.5, rawNumber(0x3f7fffff), 1) {
		for track, strip := range s.Strips {
			strip.Pan = pan
			wantLine(t, s, fmt.Sprintf("pan %d %s", track, plainText(pan)), "ok", withStrip(s, int64(track), strip))
		}
	}
	for _, pan := range wrongPans() {
		wantSaid(t, s, "no", "pan 1 "+plainText(pan))
	}
	wantSaid(t, s, "no", "pan 0 none", "pan 0 3f000000,3f000000", "pan 0 3f000000,", "pan 0 7fc00000", "pan 0 7fc00001", "pan 0 ffc00000", "pan 0 3F000000", "pan 0 3f00000", "pan 0 0", "pan 0 1", "pan 0 ")
	wantSaid(t, s, "no", "pan 2 3f000000", "pan -1 3f000000", "pan 8 3f000000")
}

func TestChapter11Flags(t *testing.T) {
	s := threeClips()
	for _, line := range []string{"mute 0", "mute 1", "solo 1", "mute 0", "solo 0", "solo 0", "mute 1", "mute 0", "solo 1", "mute 1", "solo 0"} {
		track := int64(line[5] - '0')
		strip := s.Strips[track]
		if line[0] == 'm' {
			strip.Mute = !strip.Mute
		} else {
			strip.Solo = !strip.Solo
		}
		s = wantLine(t, s, line, "ok", withStrip(s, track, strip))
	}
	wantSaid(t, s, "no", "mute 2", "mute -1", "mute 8", "solo 2", "solo -1", "solo 8", "mute 4294967296", "solo 4294967297", "mute -9223372036854775808")
}

// wantChangedBy is for a line that does what a function does with a session.
func wantChangedBy(t *testing.T, s impl.Session, line string, want impl.Session, ok bool) {
	t.Helper()
	if !ok {
		wantSaid(t, s, "no", line)
		return
	}
	wantLine(t, s, line, "ok", want)
}

func TestChapter11SessionsWithLessWorkByHand(t *testing.T) {
	s := exampleSession()
	wantLine(t, s, "split 0 1", "ok", sessionWith(1, clipOf(0, 0, 1), clipOf(0, 1, 2), clipOf(0, 1, 4)))
	wantLine(t, s, "repeat 0 2", "ok", sessionWith(1, clipOf(0, 0, 1, 2), clipOf(0, 1, 4), clipOf(0, 2, 1, 2), clipOf(0, 4, 1, 2)))
	wantLine(t, s, "freeze 0 3", "ok", sessionWith(1, clipOf(0, 0, 1, 6, 0)))
	wantLine(t, s, "compile", "ok", sessionWith(1, clipOf(0, 0, 1, 6)))
	wantSaid(t, s, "no", "split 0 0", "split 0 2", "split 1 1", "split 2 1", "split -1 1", "repeat 0 0", "repeat 0 -1", "repeat 0 11", "repeat 0 13", "repeat 2 1", "repeat -1 1")
	wantSaid(t, s, "no", "freeze 1 3", "freeze -1 3", "freeze 0 -1", "freeze 0 257", "split 4294967296 1", "repeat 0 4294967297", "freeze 0 4294967297")
	wantSaid(t, sessionWith(1, clipOf(0, 3)), "no", "repeat 0 1", "split 0 1")
	wantLine(t, sessionWith(2, clipOf(1, 0, 1)), "freeze 0 0", "ok", sessionWith(2, clipOf(1, 0, 1), clipOf(0, 0)))
	wantSaid(t, sessionWith(2, slices.Repeat([]impl.Clip{clipOf(1, 0, 1)}, 12)...), "no", "freeze 0 0")
}

func TestChapter11SessionsWithLessWork(t *testing.T) {
	for style := range styles {
		for seed := range 15 {
			s := sessionOfStyle(style, 16400+50*seed)
			for index := int64(-1); index < 13; index++ {
				for _, n := range []int64{-1, 0, 1, 2, 30, 256, 257} {
					split, ok := impl.SplitClip(s, index, n)
					wantChangedBy(t, s, fmt.Sprintf("split %d %d", index, n), split, ok)
					repeated, ok := impl.RepeatClip(s, index, n)
					wantChangedBy(t, s, fmt.Sprintf("repeat %d %d", index, n), repeated, ok)
					frozen, ok := impl.FreezeTrack(s, index, n)
					wantChangedBy(t, s, fmt.Sprintf("freeze %d %d", index, n), frozen, ok)
				}
			}
			compiled, ok := impl.CompileSession(s)
			wantChangedBy(t, s, "compile", compiled, ok)
		}
	}
}
