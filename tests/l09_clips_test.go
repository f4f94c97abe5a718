package tests

import (
	"math"
	"slices"
	"testing"

	"loop.example/g01170/impl"
)

func wantSplit(t *testing.T, what string, s impl.Session, clip, at int64, want ...impl.Clip) {
	t.Helper()
	got, ok := impl.SplitClip(s, clip, at)
	wantSession(t, what, got, ok, impl.Session{Clips: want, Strips: s.Strips})
}

func wantNoSplit(t *testing.T, what string, s impl.Session, clip, at int64) {
	t.Helper()
	got, ok := impl.SplitClip(s, clip, at)
	wantNoNewSession(t, what, got, ok)
}

func wantRepeated(t *testing.T, what string, s impl.Session, clip, times int64, more ...impl.Clip) {
	t.Helper()
	got, ok := impl.RepeatClip(s, clip, times)
	wantSession(t, what, got, ok, impl.Session{Clips: slices.Concat(s.Clips, more), Strips: s.Strips})
}

func wantNoRepeat(t *testing.T, what string, s impl.Session, clip, times int64) {
	t.Helper()
	got, ok := impl.RepeatClip(s, clip, times)
	wantNoNewSession(t, what, got, ok)
}

func wantCost(t *testing.T, what string, s impl.Session, want int64) {
	t.Helper()
	got, ok := impl.CostOf(s)
	if got != want || !ok {
		t.Errorf("%s: the cost is %d %v, want %d", what, got, ok, want)
	}
}

// threeClips has strips with all fields, and clips of two tracks.
func threeClips() impl.Session {
	s := sessionWith(0, clipOf(1, 5, 1, 2, minus0, notANum), clipOf(0, 3, 7, 8), clipOf(1, 0))
	return withStrips(s, impl.Strip{Effects: chainOf(gainBy(1)), Tenths: 3, Pan: 0.5, Mute: true}, impl.Strip{Effects: oneOfEach(), Pan: 1, Solo: true})
}

func TestChapter9SplitClipsByHand(t *testing.T) {
	wantSplit(t, "the example", exampleSession(), 0, 1, clipOf(0, 0, 1), clipOf(0, 1, 2), clipOf(0, 1, 4))
	s := threeClips()
	wantSplit(t, "behind its first sample", s, 0, 1, clipOf(1, 5, 1), clipOf(1, 6, 2, minus0, notANum), s.Clips[1], s.Clips[2])
	wantSplit(t, "in its middle", s, 0, 2, clipOf(1, 5, 1, 2), clipOf(1, 7, minus0, notANum), s.Clips[1], s.Clips[2])
	wantSplit(t, "before its last sample", s, 0, 3, clipOf(1, 5, 1, 2, minus0), clipOf(1, 8, notANum), s.Clips[1], s.Clips[2])
	wantSplit(t, "the clip between", s, 1, 1, s.Clips[0], clipOf(0, 3, 7), clipOf(0, 4, 8), s.Clips[2])
	s.Clips[2] = clipOf(0, 9, 4, 5)
	wantSplit(t, "the last clip", s, 2, 1, s.Clips[0], s.Clips[1], clipOf(0, 9, 4), clipOf(0, 10, 5))
}

func TestChapter9SplitClipsAtAllPlaces(t *testing.T) {
	x := samplesOfStyle(1, 8550, 256)
	for at := int64(-2); at < 260; at++ {
		s := sessionWith(1, clipOf(0, 0, x...))
		if at < 1 || at > 255 {
			wantNoSplit(t, "not within the samples", s, 0, at)
			continue
		}
		wantSplit(t, "any place", s, 0, at, clipOf(0, 0, x[:at]...), clipOf(0, at, x[at:]...))
		s = sessionWith(1, clipOf(0, 100, x...))
		if at > 156 {
			wantNoSplit(t, "the second one begins behind MaxSamples", s, 0, at)
			continue
		}
		wantSplit(t, "any place", s, 0, at, clipOf(0, 100, x[:at]...), clipOf(0, 100+at, x[at:]...))
	}
}

func TestChapter9WrongSplitClips(t *testing.T) {
	s := threeClips()
	for _, clip := range []int64{-1, 3, 4, 12, 1 << 32, math.MinInt64, math.MaxInt64} {
		wantNoSplit(t, "a wrong clip", s, clip, 1)
	}
	for _, at := range []int64{-1, 0, 4, 5, 257, 1 << 32, 1<<32 + 1, math.MinInt64, math.MaxInt64} {
		wantNoSplit(t, "a wrong place", s, 0, at)
	}
	for _, at := range []int64{-1, 0, 1, 2} {
		wantNoSplit(t, "a clip without samples", s, 2, at)
		wantNoSplit(t, "a clip with one sample", sessionWith(1, clipOf(0, 0, 1)), 0, at)
		wantNoSplit(t, "no clips", sessionWith(1), 0, at)
	}
	wantNoSplit(t, "behind MaxSamples", sessionWith(1, clipOf(0, 256, 1, 2)), 0, 1)
	wantSplit(t, "at MaxSamples", sessionWith(1, clipOf(0, 255, 1, 2)), 0, 1, clipOf(0, 255, 1), clipOf(0, 256, 2))
	many := slices.Repeat([]impl.Clip{clipOf(0, 0, 1, 2)}, 12)
	wantNoSplit(t, "a clip too many", sessionWith(1, many...), 3, 1)
	wantSplit(t, "the last clip", sessionWith(1, many[:11]...), 10, 1, append(slices.Clone(many[:10]), clipOf(0, 0, 1), clipOf(0, 1, 2))...)
}

func TestChapter9RepeatedClipsByHand(t *testing.T) {
	wantRepeated(t, "the example", exampleSession(), 0, 2, clipOf(0, 2, 1, 2), clipOf(0, 4, 1, 2))
	s := threeClips()
	wantRepeated(t, "once", s, 0, 1, clipOf(1, 9, 1, 2, minus0, notANum))
	wantRepeated(t, "three times", s, 1, 3, clipOf(0, 5, 7, 8), clipOf(0, 7, 7, 8), clipOf(0, 9, 7, 8))
	wantRepeated(t, "one sample", sessionWith(2, clipOf(1, 0, 5)), 0, 2, clipOf(1, 1, 5), clipOf(1, 2, 5))
}

func TestChapter9RepeatedClipsOfAllTimes(t *testing.T) {
	for before := 1; before <= 12; before++ {
		for times := int64(-2); times <= 20; times++ {
			s := sessionWith(3, append(make([]impl.Clip, before-1), clipOf(2, 4, 1, 2, 3))...)
			if times < 1 || int64(before)+times > 12 {
				wantNoRepeat(t, "too many or too few", s, int64(before)-1, times)
				continue
			}
			var more []impl.Clip
			for n := range times {
				more = append(more, clipOf(2, 7+3*n, 1, 2, 3))
			}
			wantRepeated(t, "any times", s, int64(before)-1, times, more...)
		}
	}
}

func TestChapter9WrongRepeatedClips(t *testing.T) {
	s := threeClips()
	for _, clip := range []int64{-1, 3, 4, 12, 1 << 32, math.MinInt64, math.MaxInt64} {
		wantNoRepeat(t, "a wrong clip", s, clip, 1)
	}
	for _, times := range []int64{-1, 0, 10, 12, 13, 1 << 32, 1<<32 + 1, math.MinInt64, math.MaxInt64} {
		wantNoRepeat(t, "wrong times", s, 0, times)
		wantNoRepeat(t, "a clip without samples", s, 2, times)
		wantNoRepeat(t, "no clips", sessionWith(1), 0, times)
	}
	wantNoRepeat(t, "a clip without samples", s, 2, 1)
	x := make([]float32, 64)
	wantRepeated(t, "up to MaxSamples", sessionWith(1, clipOf(0, 64, x...)), 0, 3, clipOf(0, 128, x...), clipOf(0, 192, x...), clipOf(0, 256, x...))
	wantNoRepeat(t, "behind MaxSamples", sessionWith(1, clipOf(0, 65, x...)), 0, 3)
	wantNoRepeat(t, "once more", sessionWith(1, clipOf(0, 64, x...)), 0, 4)
	wantNoRepeat(t, "at MaxSamples", sessionWith(1, clipOf(0, 256, 1)), 0, 1)
	wantRepeated(t, "before MaxSamples", sessionWith(1, clipOf(0, 255, 1)), 0, 1, clipOf(0, 256, 1))
	full := samplesOfStyle(3, 8560, 256)
	wantRepeated(t, "a full clip", sessionWith(1, clipOf(0, 0, full...)), 0, 1, clipOf(0, 256, full...))
	wantNoRepeat(t, "a full clip twice", sessionWith(1, clipOf(0, 0, full...)), 0, 2)
}

func TestChapter9CostsByHand(t *testing.T) {
	wantCost(t, "no clips", sessionWith(8), 0)
	wantCost(t, "clips", sessionWith(2, clipOf(0, 0, 1, 2), clipOf(1, 256, 3), clipOf(0, 7)), 3)
	s := exampleSession()
	s.Strips[0].Effects = chainOf(gainBy(1))
	wantCost(t, "a gain of 1", s, 259)
	s = sessionWith(0, clipOf(0, 0, 1), clipOf(1, 0, 1, 2), clipOf(2, 0, 1, 2, 3, 4), clipOf(3, 0, 1, 2, 3, 4, 5, 6, 7, 8))
	for _, row := range []struct {
		letters string
		effects int64
	}{{"....", 10}, {"m...", 9}, {".m..", 8}, {"mmmm", 0}, {"s...", 1}, {".s.s", 6}, {"sb..", 1}, {"...b", 0}, {"..ms", 4}, {"mmms", 4}} {
		s.Strips = stripsOfFlags(row.letters)
		for i := range s.Strips {
			s.Strips[i].Effects = slices.Repeat(chainOf(bend()), i+1)
		}
		wantCost(t, row.letters, s, 15+256*row.effects)
	}
	full := impl.Session{Strips: slices.Repeat([]impl.Strip{stripWith(slices.Repeat(chainOf(bend()), 8)...)}, 8)}
	full.Clips = slices.Repeat([]impl.Clip{clipOf(7, 256, make([]float32, 256)...)}, 12)
	wantCost(t, "the greatest", full, 12*256+256*64)
}

func TestChapter9CostsOfAnySessions(t *testing.T) {
	for style := range styles {
		for seed := range 200 {
			s := sessionOfStyle(style, 50*seed)
			want, tracks := 0, []impl.Track{}
			for _, c := range s.Clips {
				want += len(c.Samples)
			}
			for _, strip := range s.Strips {
				tracks = append(tracks, impl.Track{Mute: strip.Mute, Solo: strip.Solo})
			}
			for _, i := range plainHeard(tracks) {
				want += 256 * len(s.Strips[i].Effects)
			}
			wantCost(t, "any session", s, int64(want))
		}
	}
}
