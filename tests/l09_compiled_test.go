package tests

import (
	"slices"
	"testing"

	"loop.example/g01170/impl"
)

// plainJoined does what the document tells of the only clip of a track, apart from the program.
func plainJoined(s impl.Session, track int64) (impl.Clip, bool) {
	var places, ends []int
	for _, c := range s.Clips {
		if c.Track == track {
			places, ends = append(places, int(c.At)), append(ends, int(c.At)+len(c.Samples))
		}
	}
	if len(places) == 0 {
		return impl.Clip{}, false
	}
	first, end := slices.Min(places), slices.Max(ends)
	samples := plainTrack(s, track, end)[first:]
	return clipOf(track, int64(first), samples[:min(256, len(samples))]...), true
}

func plainCompiled(s impl.Session) impl.Session {
	var tracks []impl.Track
	for _, strip := range s.Strips {
		tracks = append(tracks, impl.Track{Mute: strip.Mute, Solo: strip.Solo})
	}
	heard := plainHeard(tracks)
	var compiled impl.Session
	for i, strip := range s.Strips {
		list := strip.Effects
		strip.Effects = nil
		if slices.Contains(heard, int64(i)) {
			for _, e := range list {
				if e.Kind != impl.EffectGain || oneBits(e.Numbers[0]) != oneBits(1) {
					strip.Effects = append(strip.Effects, e)
				}
			}
			if c, ok := plainJoined(s, int64(i)); ok {
				compiled.Clips = append(compiled.Clips, c)
			}
		}
		compiled.Strips = append(compiled.Strips, strip)
	}
	return compiled
}

func wantCompiled(t *testing.T, what string, s, want impl.Session) {
	t.Helper()
	got, ok := impl.CompileSession(s)
	wantSession(t, what, got, ok, want)
	again, ok := impl.CompileSession(got)
	wantSession(t, what+", compiled once more", again, ok, want)
}

func TestChapter9CompiledClipsByHand(t *testing.T) {
	wantCompiled(t, "the example", exampleSession(), sessionWith(1, clipOf(0, 0, 1, 6)))
	wantCompiled(t, "no clips", sessionWith(8), sessionWith(8))
	s := sessionWith(3, clipOf(2, 5, 1, 2), clipOf(0, 3, 10), clipOf(2, 4, 8), clipOf(0, 7, 20), clipOf(2, 6, 16))
	wantCompiled(t, "in the order of tracks", s, sessionWith(3, clipOf(0, 3, 10, 0, 0, 0, 20), clipOf(2, 4, 8, 1, 18)))
	s = sessionWith(2, clipOf(1, 9), clipOf(1, 3), clipOf(1, 5))
	wantCompiled(t, "clips without samples", s, sessionWith(2, clipOf(1, 3, 0, 0, 0, 0, 0, 0)))
	wantCompiled(t, "one clip without samples", sessionWith(2, clipOf(0, 256)), sessionWith(2, clipOf(0, 256)))
	wantCompiled(t, "several at one place", sessionWith(1, clipOf(0, 7), clipOf(0, 7)), sessionWith(1, clipOf(0, 7)))
	s = sessionWith(1, clipOf(0, 2), clipOf(0, 4, 1, 2), clipOf(0, 8))
	wantCompiled(t, "before and behind others", s, sessionWith(1, clipOf(0, 2, 0, 0, 1, 2, 0, 0)))
	s = sessionWith(1, clipOf(0, 1, 1, 2, 3, 4), clipOf(0, 2, 10))
	wantCompiled(t, "a clip within another", s, sessionWith(1, clipOf(0, 1, 1, 12, 3, 4)))
	wantCompiled(t, "zeros and others", sessionWith(1, clipOf(0, 0, minus0, tiny, notANum, -infinity)), sessionWith(1, clipOf(0, 0, 0, tiny, notANum, -infinity)))
	s = sessionWith(1, clipOf(0, 0, 16777216), clipOf(0, 0, 1), clipOf(0, 0, 1))
	wantCompiled(t, "the order of clips", s, sessionWith(1, clipOf(0, 0, 16777216)))
}

func TestChapter9CompiledClipsAreLimited(t *testing.T) {
	full, other := mixedSamples(8540, 256), mixedSamples(8541, 256)
	wantCompiled(t, "a full clip at the end", sessionWith(1, clipOf(0, 256, full...)), sessionWith(1, clipOf(0, 256, full...)))
	s := sessionWith(1, clipOf(0, 0), clipOf(0, 256, full...))
	wantCompiled(t, "a clip that is too far behind", s, sessionWith(1, clipOf(0, 0, repeated(0, 256)...)))
	s = sessionWith(1, clipOf(0, 255, other...), clipOf(0, 0, full[:255]...))
	wantCompiled(t, "two clips side by side", s, sessionWith(1, clipOf(0, 0, append(slices.Clone(full[:255]), other[0])...)))
	s = sessionWith(1, clipOf(0, 3, full[:3]...), clipOf(0, 1, other[:1]...), clipOf(0, 250, full[:6]...))
	want := slices.Concat(other[:1], []float32{0}, full[:3], repeated(0, 244), full[:6])
	wantCompiled(t, "one sample less than MaxSamples", s, sessionWith(1, clipOf(0, 1, want...)))
	s.Clips[2].Samples = full[:7]
	wantCompiled(t, "MaxSamples samples", s, sessionWith(1, clipOf(0, 1, append(want, full[6])...)))
	s.Clips[2].Samples = full[:8]
	wantCompiled(t, "one sample more", s, sessionWith(1, clipOf(0, 1, append(want, full[6])...)))
}

func TestChapter9CompiledEffectsByHand(t *testing.T) {
	s := sessionWith(1, clipOf(0, 0, 1))
	s.Strips[0].Effects = chainOf(gainBy(1), bend(), gainBy(1), gainBy(1), gainBy(2), clipAt(1), gainBy(1))
	want := sessionWith(1, clipOf(0, 0, 1))
	want.Strips[0].Effects = chainOf(bend(), gainBy(2), clipAt(1))
	wantCompiled(t, "gains of 1", s, want)
	s.Strips[0].Effects = slices.Repeat(chainOf(gainBy(1)), 8)
	wantCompiled(t, "nothing else", s, sessionWith(1, clipOf(0, 0, 1)))
	others := []float32{-1, 0, minus0, 2, rawNumber(0x3f7fffff), rawNumber(0x3f800001), infinity, notANum}
	s.Strips[0].Effects = nil
	for _, g := range others {
		s.Strips[0].Effects = append(s.Strips[0].Effects, gainBy(g))
	}
	wantCompiled(t, "other gains", s, s)
	s.Strips[0].Effects = chainOf(echoOf(1, 1, 0), filterWith(1, 0, 0, 0, 0), squeezeWith(1, 1, 1, 1), clipAt(1), limitAt(0, 1, 1), echoOf(2, 1, 1), clipAt(infinity))
	wantCompiled(t, "other effects with the number 1", s, s)
	s.Strips[0].Effects = oneOfEach()
	wantCompiled(t, "one of each", s, s)
}

func TestChapter9CompiledTracksThatAreNotHeard(t *testing.T) {
	clips := []impl.Clip{clipOf(3, 0, 8), clipOf(2, 0, 4), clipOf(1, 0, 2), clipOf(0, 0, 1), clipOf(2, 1, 4)}
	joined := []impl.Clip{clipOf(0, 0, 1), clipOf(1, 0, 2), clipOf(2, 0, 4, 4), clipOf(3, 0, 8)}
	for n := range 1 << 8 {
		letters := make([]byte, 4)
		for i := range letters {
			letters[i] = ".msb"[n>>(2*i)%4]
		}
		s := impl.Session{Clips: clips, Strips: stripsOfFlags(string(letters))}
		want := impl.Session{Strips: stripsOfFlags(string(letters))}
		heard := plainHeard(flagged(string(letters)))
		for i := range s.Strips {
			s.Strips[i].Tenths, s.Strips[i].Pan = int64(10*i), 0.125*float32(i)
			want.Strips[i].Tenths, want.Strips[i].Pan = s.Strips[i].Tenths, s.Strips[i].Pan
			if !slices.Contains(heard, int64(i)) {
				want.Strips[i].Effects = nil
				continue
			}
			want.Clips = append(want.Clips, joined[i])
		}
		wantCompiled(t, string(letters), s, want)
	}
}

func TestChapter9CompiledSessionsOfAnySessions(t *testing.T) {
	for style := range styles {
		for seed := range 300 {
			s := sessionOfStyle(style, 50*seed)
			wantCompiled(t, "any session", s, plainCompiled(s))
		}
	}
}
