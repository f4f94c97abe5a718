package tests

import (
	"math"
	"slices"
	"testing"

	"loop.example/g01170/impl"
)

// plainBounce mixes the channels of all tracks as the document tells, apart from the program.
func plainBounce(s impl.Session, count int) ([]float32, []float32) {
	var tracks []impl.Track
	for i, strip := range s.Strips {
		channel := plainChannel(s, int64(i), count)
		tracks = append(tracks, impl.Track{Samples: channel, Tenths: strip.Tenths, Pan: strip.Pan, Mute: strip.Mute, Solo: strip.Solo})
	}
	return plainMix(tracks, count)
}

func wantBounce(t *testing.T, what string, s impl.Session, left, right []float32) {
	t.Helper()
	a, b, ok := impl.BounceSession(s, int64(len(left)))
	wantSamples(t, what+", left", a, ok, left)
	wantSamples(t, what+", right", b, ok, right)
}

func wantBlocks(t *testing.T, what string, s impl.Session, size int64, left, right []float32) {
	t.Helper()
	a, b, ok := impl.BounceBlocks(s, int64(len(left)), size)
	wantSamples(t, what+", left", a, ok, left)
	wantSamples(t, what+", right", b, ok, right)
}

// wantAllBlocks is for blocks of sizes that divide a count and of others, too.
func wantAllBlocks(t *testing.T, what string, s impl.Session, left, right []float32) {
	t.Helper()
	wantBounce(t, what, s, left, right)
	for _, size := range []int64{1, 2, 3, 4, 7, 16, 63, 64, 65, 100, 128, 255, 256} {
		wantBlocks(t, what, s, size, left, right)
	}
}

// wantNoBounce is for a session or a count that is wrong, or a size that may be right for the blocks of others.
func wantNoBounce(t *testing.T, what string, s impl.Session, count, size int64) {
	t.Helper()
	left, right, ok := impl.BounceSession(s, count)
	wantNoList(t, what, left, ok)
	wantNoList(t, what, right, ok)
	wantNoBlocks(t, what, s, count, size)
}

func wantNoBlocks(t *testing.T, what string, s impl.Session, count, size int64) {
	t.Helper()
	left, right, ok := impl.BounceBlocks(s, count, size)
	wantNoList(t, what, left, ok)
	wantNoList(t, what, right, ok)
}

func TestChapter9BouncesByHand(t *testing.T) {
	wantAllBlocks(t, "the example", exampleSession(), []float32{1, 6, 0}, []float32{0, 0, 0})
	wantAllBlocks(t, "no samples", exampleSession(), nil, nil)
	wantAllBlocks(t, "no clips", sessionWith(8), repeated(0, 5), repeated(0, 5))
	s := sessionWith(3, clipOf(1, 1, 1, 2), clipOf(0, 0, 8, 8, 8), clipOf(2, 2, 4))
	s.Strips[1].Pan = 1
	wantAllBlocks(t, "left and right", s, []float32{8, 8, 12, 0}, []float32{0, 1, 2, 0})
	s.Strips[0].Effects = chainOf(gainBy(0.5), echoOf(1, 0.5, 1))
	wantAllBlocks(t, "an echo", s, []float32{4, 8, 14, 7, 3.5}, []float32{0, 1, 2, 0, 0})
	wantAllBlocks(t, "clips begin behind the count", s, []float32{4}, []float32{0})
	s.Strips[1].Tenths = 200
	gain, _ := impl.GainOf(200)
	wantAllBlocks(t, "tenths of decibels", s, []float32{4, 8, 14}, []float32{0, gain, times(2, gain)})
	s.Strips[2].Pan = 0.5
	half := impl.SineTurns(0.125)
	wantAllBlocks(t, "the middle", s, []float32{4, 8, plus(10, times(4, half))}, []float32{0, gain, plus(times(2, gain), times(4, half))})
}

func TestChapter9BouncesOfFlags(t *testing.T) {
	for n := range 1 << 8 {
		letters := make([]byte, 4)
		for i := range letters {
			letters[i] = ".msb"[n>>(2*i)%4]
		}
		s := sessionWith(0, clipOf(3, 0, 8, 8), clipOf(0, 1, 1), clipOf(2, 0, 4), clipOf(1, 0, 2, 2, 2))
		s.Strips = stripsOfFlags(string(letters))
		var sums [3]float32
		for _, i := range plainHeard(flagged(string(letters))) {
			s.Strips[i].Effects = chainOf(gainBy(1))
			for k, x := range plainTrack(s, i, 3) {
				sums[k] += x
			}
		}
		wantAllBlocks(t, string(letters), s, sums[:], repeated(0, 3))
	}
}

func TestChapter9BouncesOfZerosAndInfinities(t *testing.T) {
	s := sessionWith(2, clipOf(0, 0, minus0, tiny, infinity, notANum, 1), clipOf(1, 0, minus0, -tiny, -infinity, 1, infinity))
	wantAllBlocks(t, "on the left", s, []float32{0, 0, notANum, notANum, infinity}, []float32{0, 0, notANum, notANum, notANum})
	s.Strips[0].Effects, s.Strips[1].Effects = chainOf(gainBy(-1)), chainOf(gainBy(minus0))
	wantAllBlocks(t, "with gains", s, []float32{0, -tiny, notANum, notANum, notANum}, []float32{0, 0, notANum, notANum, notANum})
	s.Strips[0].Pan, s.Strips[1].Pan = minus0, 1
	wantAllBlocks(t, "on both sides", s, []float32{0, -tiny, notANum, notANum, notANum}, []float32{0, 0, notANum, notANum, notANum})
	s.Strips[0].Effects, s.Strips[1].Effects = nil, chainOf(clipAt(2))
	s.Strips[1].Mute = true
	wantAllBlocks(t, "what is muted", s, []float32{0, tiny, infinity, notANum, 1}, []float32{0, 0, notANum, notANum, 0})
}

func TestChapter9BouncesOfAnySessions(t *testing.T) {
	for style := range styles {
		for seed := range 40 {
			s := sessionOfStyle(style, 50*seed)
			left, right := plainBounce(s, 60+seed)
			wantAllBlocks(t, "any session", s, left, right)
		}
	}
}

func TestChapter9BouncesOfAllCounts(t *testing.T) {
	s := sessionOfStyle(0, 8600)
	s.Strips = []impl.Strip{stripWith(oneOfEach()...), {Tenths: -35, Pan: 0.75, Effects: chainOf(echoOf(32, 0.5, 0.5))}}
	for i := range s.Clips {
		s.Clips[i].Track = int64(i % 2)
	}
	left, right := plainBounce(s, 256)
	for _, count := range lengths() {
		wantAllBlocks(t, "some samples", s, left[:count], right[:count])
	}
	for size := int64(1); size <= 256; size++ {
		wantBlocks(t, "all sizes", s, size, left, right)
		wantBlocks(t, "all sizes", s, size, left[:100], right[:100])
		wantBlocks(t, "no samples", s, size, nil, nil)
	}
}

func TestChapter9BouncesWithWrongCountsAndSizes(t *testing.T) {
	for _, s := range []impl.Session{exampleSession(), sessionWith(8)} {
		for _, count := range wrongCounts() {
			wantNoBounce(t, "a wrong count", s, count, 1)
			wantNoBounce(t, "a wrong count", s, count, 256)
			wantNoBounce(t, "both are wrong", s, count, 0)
		}
		for _, size := range append(wrongCounts(), 0, math.MaxInt64-255) {
			for _, count := range []int64{0, 1, 3, 256} {
				wantNoBlocks(t, "a wrong size", s, count, size)
			}
		}
	}
}

func TestChapter9BouncesOfSilentTracks(t *testing.T) {
	loud := stripWith(slices.Repeat(chainOf(limitAt(32, 1, 1)), 8)...)
	loud.Mute = true
	s := impl.Session{Clips: []impl.Clip{clipOf(0, 0, 1, 2), clipOf(1, 0, notANum, infinity)}, Strips: []impl.Strip{{}, loud}}
	wantAllBlocks(t, "a muted track", s, []float32{1, 2, 0}, []float32{0, 0, 0})
	s.Strips[0].Mute = true
	wantAllBlocks(t, "all are muted", s, []float32{0, 0, 0}, []float32{0, 0, 0})
	s.Strips[0].Mute, s.Strips[0].Solo, s.Strips[1].Mute = false, true, false
	wantAllBlocks(t, "one is solo", s, []float32{1, 2, 0}, []float32{0, 0, 0})
	s.Strips[0].Solo, s.Strips[1].Mute, s.Strips[1].Solo = false, true, true
	wantAllBlocks(t, "one that is both makes the other silent", s, []float32{0, 0, 0}, []float32{0, 0, 0})
}
