package tests

import (
	"slices"
	"testing"

	"loop.example/g01170/impl"
)

func isSameClip(a, b impl.Clip) bool {
	return a.Track == b.Track && a.At == b.At && slices.Equal(allBits(a.Samples), allBits(b.Samples))
}

func isSameStrip(a, b impl.Strip) bool {
	sameMix := a.Tenths == b.Tenths && oneBits(a.Pan) == oneBits(b.Pan) && a.Mute == b.Mute && a.Solo == b.Solo
	return sameMix && slices.EqualFunc(a.Effects, b.Effects, isSameEffect)
}

func wantSession(t *testing.T, what string, got impl.Session, ok bool, want impl.Session) {
	t.Helper()
	if !ok || !impl.ValidSession(got) {
		t.Errorf("%s: %v %v is no session", what, got, ok)
	}
	if !slices.EqualFunc(got.Clips, want.Clips, isSameClip) || !slices.EqualFunc(got.Strips, want.Strips, isSameStrip) {
		t.Errorf("%s: got %v, want %v", what, got, want)
	}
}

// withStrips has other strips in a session.
func withStrips(s impl.Session, strips ...impl.Strip) impl.Session {
	s.Strips = strips
	return s
}

// plainFrozen does what the document tells of a session with a frozen track, apart from the program.
func plainFrozen(s impl.Session, track int64, count int) impl.Session {
	var frozen impl.Session
	for _, c := range s.Clips {
		if c.Track != track {
			frozen.Clips = append(frozen.Clips, c)
		}
	}
	frozen.Clips = append(frozen.Clips, clipOf(track, 0, plainChannel(s, track, count)...))
	frozen.Strips = slices.Clone(s.Strips)
	frozen.Strips[track].Effects = nil
	return frozen
}

func wantFrozen(t *testing.T, what string, s impl.Session, track, count int64, want impl.Session) {
	t.Helper()
	got, ok := impl.FreezeTrack(s, track, count)
	wantSession(t, what, got, ok, want)
}

func TestChapter9FrozenTracksByHand(t *testing.T) {
	wantFrozen(t, "the example", exampleSession(), 0, 3, sessionWith(1, clipOf(0, 0, 1, 6, 0)))
	wantFrozen(t, "some of it", exampleSession(), 0, 1, sessionWith(1, clipOf(0, 0, 1)))
	wantFrozen(t, "none of it", exampleSession(), 0, 0, sessionWith(1, clipOf(0, 0)))
	strips := []impl.Strip{stripWith(gainBy(2)), stripWith(gainBy(0.5), echoOf(2, 0.5, 1)), stripWith(bend())}
	strips[1].Tenths, strips[1].Pan, strips[1].Mute, strips[1].Solo = -35, 0.25, true, true
	s := withStrips(sessionWith(0, clipOf(1, 1, 8), clipOf(2, 0, 1, 2), clipOf(1, 0), clipOf(0, 9), clipOf(1, 2, 16)), strips...)
	after := slices.Clone(strips)
	after[1].Effects = nil
	want := withStrips(sessionWith(0, clipOf(2, 0, 1, 2), clipOf(0, 9), clipOf(1, 0, 0, 4, 8, 4, 8, 2)), after...)
	wantFrozen(t, "a track that is muted and solo", s, 1, 6, want)
	after = slices.Clone(strips)
	after[0].Effects = nil
	want = withStrips(sessionWith(0, clipOf(1, 1, 8), clipOf(2, 0, 1, 2), clipOf(1, 0), clipOf(1, 2, 16), clipOf(0, 0, 0, 0)), after...)
	wantFrozen(t, "a track without samples", s, 0, 2, want)
	wantFrozen(t, "no clips", sessionWith(3), 2, 4, sessionWith(3, clipOf(2, 0, 0, 0, 0, 0)))
	s = withStrips(sessionWith(0, clipOf(0, 0, minus0, 0, notANum)), stripWith(gainBy(-1)))
	wantFrozen(t, "a channel with -0", s, 0, 3, sessionWith(1, clipOf(0, 0, minus0, minus0, notANum)))
}

func TestChapter9FrozenTracksOfManyClips(t *testing.T) {
	full := slices.Repeat([]impl.Clip{clipOf(1, 3, 1)}, 12)
	wantFrozen(t, "all clips are one", sessionWith(2, full...), 1, 4, sessionWith(2, clipOf(1, 0, 0, 0, 0, 12)))
	frozen, ok := impl.FreezeTrack(sessionWith(2, full...), 0, 4)
	wantNoNewSession(t, "a clip too many", frozen, ok)
	frozen, ok = impl.FreezeTrack(sessionWith(2, full...), 0, 0)
	wantNoNewSession(t, "a clip without samples too many", frozen, ok)
	wantFrozen(t, "the last clip", sessionWith(2, full[:11]...), 0, 1, sessionWith(2, append(slices.Clone(full[:11]), clipOf(0, 0, 0))...))
	mixed := append(slices.Clone(full[:11]), clipOf(0, 0))
	wantFrozen(t, "one clip instead of another", sessionWith(2, mixed...), 0, 1, sessionWith(2, append(slices.Clone(full[:11]), clipOf(0, 0, 0))...))
}

func TestChapter9FrozenTracksOfAnySessions(t *testing.T) {
	for style := range styles {
		for seed := range 60 {
			s := sessionOfStyle(style, 50*seed)
			for track := range s.Strips {
				count := []int{0, 1, 30, 100, 256}[(seed+track)%5]
				want := plainFrozen(s, int64(track), count)
				if len(want.Clips) <= 12 {
					wantFrozen(t, "any session", s, int64(track), int64(count), want)
					continue
				}
				frozen, ok := impl.FreezeTrack(s, int64(track), int64(count))
				wantNoNewSession(t, "a clip too many", frozen, ok)
			}
		}
	}
}

func TestChapter9WrongFrozenTracks(t *testing.T) {
	for _, track := range []int64{-1, 2, 8, 1 << 32} {
		wantNoTrack(t, "a wrong track", sessionWith(2, clipOf(0, 0, 1)), track, 1)
	}
	for _, count := range wrongCounts() {
		wantNoTrack(t, "a wrong count", sessionWith(2, clipOf(0, 0, 1)), 1, count)
	}
	wantFrozen(t, "the first track", sessionWith(2), 0, 256, sessionWith(2, clipOf(0, 0, make([]float32, 256)...)))
	wantFrozen(t, "the last track", sessionWith(2), 1, 255, sessionWith(2, clipOf(1, 0, make([]float32, 255)...)))
}
