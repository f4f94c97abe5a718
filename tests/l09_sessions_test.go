package tests

import (
	"math"
	"slices"
	"testing"

	"loop.example/g01170/impl"
)

func clipOf(track, at int64, samples ...float32) impl.Clip {
	return impl.Clip{Track: track, At: at, Samples: samples}
}

func stripWith(effects ...impl.Effect) impl.Strip { return impl.Strip{Effects: effects} }

// sessionWith has so many strips on the left, without effects.
func sessionWith(strips int, clips ...impl.Clip) impl.Session {
	return impl.Session{Clips: clips, Strips: make([]impl.Strip, strips)}
}

// exampleSession is that of the document's examples.
func exampleSession() impl.Session { return sessionWith(1, clipOf(0, 0, 1, 2), clipOf(0, 1, 4)) }

// stripsOfFlags have a letter each, as in flagged, and a chain of one bend.
func stripsOfFlags(letters string) []impl.Strip {
	var strips []impl.Strip
	for _, track := range flagged(letters) {
		strips = append(strips, impl.Strip{Effects: chainOf(bend()), Mute: track.Mute, Solo: track.Solo})
	}
	return strips
}

// clipOfStyle mostly begins early and is short, so that clips overlap and go on behind many counts.
func clipOfStyle(style, seed, strips int) impl.Clip {
	bits := mixedBits(seed, 7000)
	at, count := int64(bits>>4%40), int(bits>>12%41)
	switch bits >> 20 % 8 {
	case 0:
		at = 256 - at%3
	case 1:
		count = 256 - count%3
	case 2:
		count = count % 2
	}
	return clipOf(int64(bits>>24)%int64(strips), at, samplesOfStyle(style, seed, count)...)
}

// stripOfStyle has gains of 1 among its effects.
func stripOfStyle(style, seed int, track impl.Track) impl.Strip {
	bits := mixedBits(seed, 7100)
	list := chainOfStyle(style, seed, int(bits%9))
	for i := range list {
		if bits>>(8+i)&3 == 0 {
			list[i] = gainBy(1)
		}
	}
	return impl.Strip{Effects: list, Tenths: track.Tenths, Pan: track.Pan, Mute: track.Mute, Solo: track.Solo}
}

// sessionOfStyle has fewer tracks than 9 and fewer clips than 13.
func sessionOfStyle(style, seed int) impl.Session {
	bits := mixedBits(seed, 7200)
	strips := 1 + int(bits%8)
	var s impl.Session
	for i, track := range tracksOfStyle(style, seed, strips) {
		s.Strips = append(s.Strips, stripOfStyle(style, seed+20*i, track))
	}
	for i := range bits >> 8 % 13 {
		s.Clips = append(s.Clips, clipOfStyle(style, seed+30*int(i), strips))
	}
	return s
}

func wantValid(t *testing.T, what string, s impl.Session) {
	t.Helper()
	if !impl.ValidSession(s) {
		t.Errorf("%s: %v is not valid", what, s)
	}
}

func wantLength(t *testing.T, what string, s impl.Session, want int64) {
	t.Helper()
	got, ok := impl.LengthOf(s)
	if got != want || !ok {
		t.Errorf("%s: the length is %d %v, want %d", what, got, ok, want)
	}
}

func TestChapter9ValidSessions(t *testing.T) {
	wantValid(t, "the example", exampleSession())
	for count := range 300 {
		if got := impl.ValidSession(sessionWith(count)); got != (count >= 1 && count <= 8) {
			t.Errorf("%d strips: %v", count, got)
		}
		if got := impl.ValidSession(sessionWith(1, make([]impl.Clip, count)...)); got != (count <= 12) {
			t.Errorf("%d clips: %v", count, got)
		}
		s := sessionWith(1, clipOf(0, 0, make([]float32, count)...), clipOf(0, 256, make([]float32, count)...))
		if got := impl.ValidSession(s); got != (count <= 256) {
			t.Errorf("%d samples: %v", count, got)
		}
	}
	for n := int64(-3); n < 300; n++ {
		if got := impl.ValidSession(sessionWith(1, clipOf(0, n))); got != (n >= 0 && n <= 256) {
			t.Errorf("a clip at %d: %v", n, got)
		}
		for strips := 1; strips <= 8; strips++ {
			if got := impl.ValidSession(sessionWith(strips, clipOf(n, 1, 2))); got != (n >= 0 && n < int64(strips)) {
				t.Errorf("a clip of track %d of %d: %v", n, strips, got)
			}
		}
	}
	for style := range styles {
		for seed := range 200 {
			wantValid(t, "any session", sessionOfStyle(style, 50*seed))
		}
	}
}

func TestChapter9ValidStrips(t *testing.T) {
	for _, tenths := range []int64{-2000, -1999, 0, 1999, 2000} {
		wantValid(t, "tenths", impl.Session{Strips: []impl.Strip{{Tenths: tenths}}})
	}
	for _, pan := range append(pansOf(8500, 100), 0, minus0, tiny, rawNumber(0x3f7fffff), 1) {
		wantValid(t, "a pan", impl.Session{Strips: []impl.Strip{{}, {Pan: pan}}})
	}
	for _, letters := range []string{".", "m", "s", "b", "mmmm", "ssss", "bbbb", ".msb", "bsm....."} {
		wantValid(t, letters, impl.Session{Strips: stripsOfFlags(letters)})
	}
	wantValid(t, "an effect of each kind", impl.Session{Strips: []impl.Strip{stripWith(), stripWith(oneOfEach()...)}})
	full := slices.Repeat(chainOf(limitAt(32, 1, 1)), 8)
	wantValid(t, "full chains", impl.Session{Strips: slices.Repeat([]impl.Strip{stripWith(full...)}, 8)})
	wantValid(t, "any numbers", sessionWith(1, clipOf(0, 0, edgeNumbers()...)))
}

// wrongStrips have one field that is wrong.
func wrongStrips() []impl.Strip {
	strips := []impl.Strip{stripWith(make([]impl.Effect, 9)...), stripWith(slices.Repeat(chainOf(gainBy(1)), 9)...)}
	for i, e := range wrongEffects() {
		strips = append(strips, stripWith(chainOf(bend(), e)[i%2:]...))
	}
	for _, track := range wrongTracks() {
		if track.Tenths != 0 || !isRightPan(track.Pan) {
			strips = append(strips, impl.Strip{Tenths: track.Tenths, Pan: track.Pan})
		}
	}
	return strips
}

func wrongClips(strips int64) []impl.Clip {
	list := []impl.Clip{{Samples: make([]float32, 257)}, {At: 256, Samples: make([]float32, 100000)}}
	for _, n := range []int64{-1, 257, -257, 1 << 32, 1<<32 + 1, math.MinInt64, math.MaxInt64, math.MaxInt64 - 1} {
		list = append(list, clipOf(0, n), clipOf(0, n, 1, 2))
	}
	for _, n := range []int64{-1, strips, strips + 1, 8, 1 << 32, math.MinInt64, math.MaxInt64} {
		list = append(list, clipOf(n, 0), clipOf(n, 0, 1))
	}
	return list
}

// wrongSessions are just beside valid ones.
func wrongSessions() []impl.Session {
	list := []impl.Session{
		{}, {Clips: []impl.Clip{{}}}, sessionWith(9), sessionWith(9, clipOf(8, 0, 1)), sessionWith(1000), sessionWith(0, clipOf(-1, 0, 1)),
		sessionWith(1, make([]impl.Clip, 13)...), sessionWith(8, make([]impl.Clip, 1000)...), sessionWith(1, slices.Repeat([]impl.Clip{clipOf(0, 0, 1)}, 13)...),
	}
	for i, strip := range wrongStrips() {
		strips := make([]impl.Strip, 1+i%8)
		strip.Mute, strip.Solo = i%3 == 1, i%5 == 1
		strips[i/8%len(strips)] = strip
		list = append(list, impl.Session{Clips: []impl.Clip{clipOf(0, 0, 1, 2)}, Strips: strips})
	}
	for strips := 1; strips <= 8; strips++ {
		for i, clip := range wrongClips(int64(strips)) {
			clips := []impl.Clip{clipOf(0, 0, 1, 2), clipOf(0, 0, 3, 4), clipOf(0, 5)}
			clips[i%3] = clip
			list = append(list, sessionWith(strips, clips...))
		}
	}
	return list
}

// wantNoNewSession is for calls whose result would be a session.
func wantNoNewSession(t *testing.T, what string, s impl.Session, ok bool) {
	t.Helper()
	if ok || len(s.Clips) != 0 || len(s.Strips) != 0 {
		t.Errorf("%s: got %v %v, want no session and false", what, s, ok)
	}
}

func TestChapter9WrongSessions(t *testing.T) {
	for _, s := range wrongSessions() {
		if impl.ValidSession(s) {
			t.Errorf("%v is valid", s)
		}
		length, ok := impl.LengthOf(s)
		wantZero(t, "LengthOf", length, ok)
		cost, ok := impl.CostOf(s)
		wantZero(t, "CostOf", cost, ok)
		compiled, ok := impl.CompileSession(s)
		wantNoNewSession(t, "CompileSession", compiled, ok)
		for _, count := range []int64{0, 1, 256} {
			wantNoTrack(t, "a wrong session", s, 0, count)
			wantNoBounce(t, "a wrong session", s, count, 1)
		}
		for clip := range int64(3) {
			wantNoSplit(t, "a wrong session", s, clip, 1)
			wantNoRepeat(t, "a wrong session", s, clip, 1)
		}
	}
}

func TestChapter9LengthsByHand(t *testing.T) {
	wantLength(t, "the example", exampleSession(), 2)
	wantLength(t, "no clips", sessionWith(8), 0)
	wantLength(t, "a clip without samples at 0", sessionWith(1, clipOf(0, 0)), 0)
	wantLength(t, "a clip without samples", sessionWith(1, clipOf(0, 7)), 7)
	wantLength(t, "one behind the end of another", sessionWith(2, clipOf(1, 3, 1, 2), clipOf(0, 200)), 200)
	wantLength(t, "the first one is the last to end", sessionWith(2, clipOf(1, 0, 1, 2, 3, 4), clipOf(0, 1, 1), clipOf(0, 2, 1)), 4)
	wantLength(t, "the last one is", sessionWith(2, clipOf(1, 0, 1, 2), clipOf(0, 1, 1), clipOf(0, 2, 1)), 3)
	wantLength(t, "at the end", sessionWith(1, clipOf(0, 256)), 256)
	wantLength(t, "behind MaxSamples", sessionWith(1, clipOf(0, 256, 1)), 257)
	wantLength(t, "the greatest", sessionWith(1, clipOf(0, 1, 1), clipOf(0, 256, make([]float32, 256)...)), 512)
	s := sessionWith(3, clipOf(0, 3, 1, 2), clipOf(1, 30, 1, 2))
	s.Strips = stripsOfFlags(".ms")
	wantLength(t, "clips that are not heard count", s, 32)
}

func TestChapter9LengthsOfAnySessions(t *testing.T) {
	for style := range styles {
		for seed := range 200 {
			s := sessionOfStyle(style, 50*seed)
			var ends []int64
			for _, c := range s.Clips {
				ends = append(ends, c.At+int64(len(c.Samples)))
			}
			slices.Sort(ends)
			wantLength(t, "any session", s, append([]int64{0}, ends...)[len(ends)])
		}
	}
}
