package tests

import (
	"math"
	"testing"

	"loop.example/g01170/impl"
)

// plainTrack does what the document tells of the samples of a track, apart from the program.
func plainTrack(s impl.Session, track int64, count int) []float32 {
	samples := make([]float32, count)
	for _, c := range s.Clips {
		for i, x := range c.Samples {
			if place := int(c.At) + i; c.Track == track && place < count {
				samples[place] = plus(samples[place], x)
			}
		}
	}
	return samples
}

func plainNewState(list []impl.Effect) [][]float32 {
	var state [][]float32
	for _, e := range list {
		numbers := make([]float32, stateLength(e))
		if e.Kind == impl.EffectLimit {
			numbers[0] = 1
		}
		state = append(state, numbers)
	}
	return state
}

func plainChannel(s impl.Session, track int64, count int) []float32 {
	list := s.Strips[track].Effects
	channel, _ := plainChain(list, plainNewState(list), plainTrack(s, track, count))
	return channel
}

func wantTrack(t *testing.T, what string, s impl.Session, track int64, want ...float32) {
	t.Helper()
	got, ok := impl.TrackOf(s, track, int64(len(want)))
	wantSamples(t, what, got, ok, want)
}

func wantChannel(t *testing.T, what string, s impl.Session, track int64, want ...float32) {
	t.Helper()
	got, ok := impl.ChannelOf(s, track, int64(len(want)))
	wantSamples(t, what, got, ok, want)
}

// wantNoTrack is for a session, a track or a count that is wrong.
func wantNoTrack(t *testing.T, what string, s impl.Session, track, count int64) {
	t.Helper()
	samples, ok := impl.TrackOf(s, track, count)
	wantNoList(t, what, samples, ok)
	channel, ok := impl.ChannelOf(s, track, count)
	wantNoList(t, what, channel, ok)
	frozen, ok := impl.FreezeTrack(s, track, count)
	wantNoNewSession(t, what, frozen, ok)
}

func TestChapter9TracksByHand(t *testing.T) {
	wantTrack(t, "the example", exampleSession(), 0, 1, 6, 0)
	wantTrack(t, "no clips", sessionWith(8), 7, 0, 0, 0)
	wantTrack(t, "no samples", exampleSession(), 0)
	wantTrack(t, "clips reach behind the count", exampleSession(), 0, 1)
	s := sessionWith(3, clipOf(2, 1, 1, 2), clipOf(0, 0, 10, 20, 30), clipOf(2, 2, 4, 8, 16), clipOf(0, 3), clipOf(2, 2, 32))
	wantTrack(t, "the first track", s, 0, 10, 20, 30, 0)
	wantTrack(t, "one without clips", s, 1, 0, 0, 0)
	wantTrack(t, "the last track", s, 2, 0, 1, 38, 8, 16, 0, 0)
	wantTrack(t, "some of the last track", s, 2, 0, 1, 38)
	wantTrack(t, "a clip begins behind the count", s, 2, 0, 1)
	wantTrack(t, "all clips begin behind the count", s, 2, 0)
	wantTrack(t, "no samples of the last track", s, 2)
	wantTrack(t, "clips without samples", sessionWith(1, clipOf(0, 0), clipOf(0, 2), clipOf(0, 256)), 0, 0, 0, 0)
}

func TestChapter9TracksAreSumsInOrder(t *testing.T) {
	const big = 16777216
	wantTrack(t, "small ones first", sessionWith(1, clipOf(0, 0, 1), clipOf(0, 0, 1), clipOf(0, 0, big)), 0, big+2)
	wantTrack(t, "the big one first", sessionWith(1, clipOf(0, 0, big), clipOf(0, 0, 1), clipOf(0, 0, 1)), 0, big)
	wantTrack(t, "not in the order of At", sessionWith(1, clipOf(0, 1, big), clipOf(0, 0, 0, 1), clipOf(0, 1, 1)), 0, 0, big)
	wantTrack(t, "zeros", sessionWith(1, clipOf(0, 0, 0, minus0, minus0, 1), clipOf(0, 0, minus0, minus0, 0, -1)), 0, 0, 0, 0, 0)
	wantTrack(t, "one clip with -0", sessionWith(1, clipOf(0, 0, minus0)), 0, 0)
	wantTrack(t, "subnormal numbers", sessionWith(1, clipOf(0, 0, tiny, -tiny), clipOf(0, 0, tiny, -tiny)), 0, 2*tiny, -2*tiny)
	s := sessionWith(1, clipOf(0, 0, infinity, infinity, -infinity, notANum, 1, largest), clipOf(0, 0, 1, -infinity, 1, 1, notANum, largest))
	wantTrack(t, "infinities", s, 0, infinity, notANum, -infinity, notANum, notANum, infinity)
}

func TestChapter9TracksAtTheEnds(t *testing.T) {
	s := sessionWith(1, clipOf(0, 256, 1, 2), clipOf(0, 255, 3, 4), clipOf(0, 254, 5, 6, 7))
	wantTrack(t, "clips at the end", s, 0, append(repeated(0, 254), 5, 9)...)
	wantTrack(t, "one sample less", s, 0, append(repeated(0, 254), 5)...)
	wantTrack(t, "two less", s, 0, repeated(0, 254)...)
	full := mixedSamples(8510, 256)
	wantTrack(t, "a full clip", sessionWith(1, clipOf(0, 0, full...)), 0, full...)
	wantTrack(t, "a full clip later", sessionWith(1, clipOf(0, 1, full...)), 0, append([]float32{0}, full[:255]...)...)
	wantTrack(t, "a full clip at the end", sessionWith(1, clipOf(0, 255, full...)), 0, append(repeated(0, 255), full[0])...)
	wantTrack(t, "a full clip behind the end", sessionWith(1, clipOf(0, 256, full...)), 0, repeated(0, 256)...)
}

func TestChapter9ChannelsByHand(t *testing.T) {
	wantChannel(t, "the example", exampleSession(), 0, 1, 6, 0)
	s := exampleSession()
	s.Strips[0] = stripWith(echoOf(2, 0.5, 1), gainBy(0.5))
	wantChannel(t, "an echo", s, 0, 0.5, 3, 0.5, 3, 0.25, 1.5)
	wantChannel(t, "no samples", s, 0)
	s.Strips[0] = stripWith(limitAt(1, 0.5, 0.25))
	s.Clips = []impl.Clip{clipOf(0, 1, 1, 0.25)}
	wantChannel(t, "a limiter begins with the gain 1", s, 0, 0, 0, 0.5, 0.1875)
	s.Strips[0] = stripWith(gainBy(1))
	s.Clips = []impl.Clip{clipOf(0, 0, minus0, -tiny)}
	wantChannel(t, "-0 is added to +0", s, 0, 0, -tiny)
	s.Strips[0] = stripWith(gainBy(-1))
	wantChannel(t, "a chain can make -0", s, 0, minus0, tiny)
}

func TestChapter9ChannelsOfTracksThatAreNotHeard(t *testing.T) {
	s := sessionWith(0, clipOf(0, 0, 1), clipOf(1, 0, 2), clipOf(2, 0, 4), clipOf(3, 0, 8))
	for _, letters := range []string{".msb", "s...", "mmmm", "bbbb", "...."} {
		s.Strips = stripsOfFlags(letters)
		for i := range s.Strips {
			s.Strips[i].Effects = chainOf(gainBy(3))
			s.Strips[i].Tenths, s.Strips[i].Pan = 100, 0.5
			x := float32(int(1) << i)
			wantTrack(t, letters, s, int64(i), x, 0)
			wantChannel(t, letters, s, int64(i), 3*x, 0)
		}
	}
}

func TestChapter9TracksOfAnySessions(t *testing.T) {
	for style := range styles {
		for seed := range 40 {
			s := sessionOfStyle(style, 50*seed)
			for track := range s.Strips {
				for _, count := range []int{0, 1, 20, 50, 255, 256} {
					wantTrack(t, "any session", s, int64(track), plainTrack(s, int64(track), count)...)
				}
				wantChannel(t, "any session", s, int64(track), plainChannel(s, int64(track), 70+seed)...)
			}
		}
	}
}

func TestChapter9LongChannels(t *testing.T) {
	for style := range styles {
		for i, e := range oneOfEach() {
			s := impl.Session{Clips: []impl.Clip{clipOf(1, 0, samplesOfStyle(style, 8520+i, 256)...)}, Strips: []impl.Strip{{}, stripWith(e)}}
			wantChannel(t, "one effect", s, 1, plainChannel(s, 1, 256)...)
			s.Clips = append(s.Clips, clipOf(1, 60, samplesOfStyle(style, 8530+i, 256)...))
			s.Strips[1].Effects = append(oneOfEach(), e)
			wantChannel(t, "all effects", s, 1, plainChannel(s, 1, 256)...)
		}
	}
}

func TestChapter9WrongTracks(t *testing.T) {
	for strips := 1; strips <= 8; strips++ {
		s := sessionWith(strips, clipOf(0, 0, 1, 2, 3))
		for _, track := range []int64{-1, int64(strips), int64(strips) + 1, 8, 1 << 32, math.MinInt64, math.MaxInt64} {
			wantNoTrack(t, "a wrong track", s, track, 0)
			wantNoTrack(t, "a wrong track", s, track, 3)
		}
		for _, track := range []int64{0, int64(strips) - 1} {
			for _, count := range wrongCounts() {
				wantNoTrack(t, "a wrong count", s, track, count)
			}
			for _, count := range []int{0, 1, 2, 255, 256} {
				wantTrack(t, "right ones", s, track, plainTrack(s, track, count)...)
				wantChannel(t, "right ones", s, track, plainTrack(s, track, count)...)
			}
		}
	}
}
