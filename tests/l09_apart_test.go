package tests

import (
	"slices"
	"testing"

	"loop.example/g01170/impl"
)

// sessionRow has the check numbers of the texts of a session's left and right, of some tracks and channels, and of its clips once it is compiled, and the cost of these.
type sessionRow struct {
	scale    float32
	bounced  [2]int64
	tracks   [2]int64
	channels [3]int64
	clips    [7]int64
	cost     int64
}

// sessionRows were computed apart from the program.
func sessionRows() []sessionRow {
	return []sessionRow{
		{1, [2]int64{14602, 55345}, [2]int64{11667, 17013}, [3]int64{46601, 48820, 27795}, [7]int64{11667, 38841, 62167, 30528, 26027, 39149, 11580}, 13958},
		{0x1p-131, [2]int64{11772, 44166}, [2]int64{17407, 44966}, [3]int64{53594, 63813, 11556}, [7]int64{17407, 39023, 39530, 52352, 6047, 7937, 26622}, 13958},
	}
}

// scaledSession has the most strips and clips, all kinds of effects, and a track that is muted.
func scaledSession(scale float32) impl.Session {
	var s impl.Session
	for i := range 8 {
		effects := slices.Concat(oneOfEach()[i%7:], oneOfEach()[:i%7], chainOf(gainBy(1)))
		s.Strips = append(s.Strips, impl.Strip{Effects: effects, Tenths: int64(40*i - 150), Pan: over(float32(i), 7), Mute: i == 3})
	}
	for i := range 12 {
		samples := scaled(mixedSamples(9050+i, 40+18*i), scale)
		s.Clips = append(s.Clips, clipOf(int64(5*i%8), int64(15*i), samples...))
	}
	return s
}

func TestChapter9SessionsComputedApart(t *testing.T) {
	for _, want := range sessionRows() {
		s, got := scaledSession(want.scale), sessionRow{scale: want.scale}
		left, right := bounceOf(t, s, 256)
		got.bounced = [2]int64{checkOfSamples(t, left), checkOfSamples(t, right)}
		for i, track := range []int64{0, 4} {
			samples, _ := impl.TrackOf(s, track, 256)
			got.tracks[i] = checkOfSamples(t, samples)
		}
		for i, track := range []int64{0, 3, 7} {
			channel, _ := impl.ChannelOf(s, track, 256)
			got.channels[i] = checkOfSamples(t, channel)
		}
		compiled, _ := impl.CompileSession(s)
		for i, c := range compiled.Clips {
			got.clips[i] = checkOfSamples(t, c.Samples)
		}
		got.cost, _ = impl.CostOf(compiled)
		if got != want {
			t.Errorf("got %v, want %v", got, want)
		}
		wantCost(t, "not compiled", s, 16004)
		wantLength(t, "computed apart", s, 403)
	}
}
