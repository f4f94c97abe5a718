package tests

import (
	"math"
	"reflect"
	"slices"
	"testing"

	"loop.example/g01170/impl"
)

func clipsBits(list []impl.Clip) []any {
	bits := []any{}
	for _, c := range list {
		bits = append(bits, c.Track, c.At, allBits(c.Samples))
	}
	return bits
}

func stripsBits(list []impl.Strip) []any {
	bits := []any{}
	for _, s := range list {
		bits = append(bits, effectsBits(s.Effects), s.Tenths, oneBits(s.Pan), s.Mute, s.Solo)
	}
	return bits
}

func sessionOutcome(s impl.Session, ok bool) []any {
	return plain(clipsBits(s.Clips), stripsBits(s.Strips), ok)
}

// guardedSession guards clips, strips, and all lists within them.
type guardedSession struct {
	session impl.Session
	samples guardedInputs
	effects []guardedEffects
	clips   guarded[impl.Clip]
	strips  guarded[impl.Strip]
}

func samplesOfClips(clips []impl.Clip) [][]float32 {
	var lists [][]float32
	for _, c := range clips {
		lists = append(lists, c.Samples)
	}
	return lists
}

func isClipUntouched(a, b impl.Clip) bool {
	return a.Track == b.Track && a.At == b.At && isSameMemory([][]float32{a.Samples}, [][]float32{b.Samples})
}

func isStripUntouched(a, b impl.Strip) bool {
	sameEffects := len(a.Effects) == len(b.Effects) && (len(a.Effects) == 0 || &a.Effects[0] == &b.Effects[0])
	return sameEffects && isSameStrip(a, b)
}

func guardSession(s impl.Session) guardedSession {
	g := guardedSession{samples: guardInputs(samplesOfClips(s.Clips))}
	clips, strips := slices.Clone(s.Clips), slices.Clone(s.Strips)
	for i := range clips {
		clips[i].Samples = g.samples.list[i]
	}
	for i := range strips {
		g.effects = append(g.effects, guardEffects(strips[i].Effects))
		strips[i].Effects = g.effects[i].list
	}
	sameClips := func(a, b []impl.Clip) bool { return slices.EqualFunc(a, b, isClipUntouched) }
	sameStrips := func(a, b []impl.Strip) bool { return slices.EqualFunc(a, b, isStripUntouched) }
	g.clips, g.strips = guard(clips, impl.Clip{Track: -77}, sameClips), guard(strips, impl.Strip{Tenths: -77}, sameStrips)
	g.session = impl.Session{Clips: g.clips.list, Strips: g.strips.list}
	return g
}

func (g guardedSession) isUntouched() bool {
	isTouched := func(e guardedEffects) bool { return !e.isUntouched() }
	return g.clips.isUntouched() && g.strips.isUntouched() && g.samples.isUntouched() && !slices.ContainsFunc(g.effects, isTouched)
}

func anySessions() []impl.Session {
	list := []impl.Session{{}, {Clips: []impl.Clip{}, Strips: []impl.Strip{}}, exampleSession(), threeClips(), sessionWith(8), sessionWith(100000)}
	for i, wrong := range wrongSessions() {
		if i%9 == 0 {
			list = append(list, wrong)
		}
	}
	for i := range 24 {
		list = append(list, sessionOfStyle(i%styles, 16000+50*i))
	}
	return append(list, sessionWith(1, make([]impl.Clip, 100000)...), sessionWith(1, slices.Repeat([]impl.Clip{clipOf(0, 256, mixedSamples(1, 256)...)}, 12)...))
}

func anyIndexes() []int64 {
	return []int64{0, 1, 2, 7, 8, 11, 12, -1, 1 << 32, math.MinInt64, math.MaxInt64}
}

func anyFewCounts() []int64 {
	return []int64{0, 1, 2, 12, 13, 100, 255, 256, 257, -1, 1 << 32, 1<<32 + 1, math.MinInt64, math.MaxInt64}
}

func TestPromise1Sessions(t *testing.T) {
	for _, s := range anySessions() {
		g := guardSession(s)
		wantTwice(t, "functions of a session", func() []any {
			return slices.Concat(plain(impl.ValidSession(g.session)), outcome(impl.LengthOf(g.session)), outcome(impl.CostOf(g.session)),
				sessionOutcome(impl.CompileSession(g.session)))
		})
		for _, count := range anyFewCounts() {
			wantTwice(t, "BounceSession", func() []any { return pairOutcome(impl.BounceSession(g.session, count)) })
			for _, size := range anyFewCounts() {
				wantTwice(t, "BounceBlocks", func() []any { return pairOutcome(impl.BounceBlocks(g.session, count, size)) })
			}
		}
		if !g.isUntouched() {
			t.Errorf("%v was modified", s)
		}
	}
}

func TestPromise1TracksAndClips(t *testing.T) {
	for _, s := range anySessions() {
		g := guardSession(s)
		for _, index := range anyIndexes() {
			for _, count := range anyFewCounts() {
				wantTwice(t, "functions of a track", func() []any {
					return slices.Concat(outcome(impl.TrackOf(g.session, index, count)), outcome(impl.ChannelOf(g.session, index, count)),
						sessionOutcome(impl.FreezeTrack(g.session, index, count)))
				})
				wantTwice(t, "functions of a clip", func() []any {
					return slices.Concat(sessionOutcome(impl.SplitClip(g.session, index, count)), sessionOutcome(impl.RepeatClip(g.session, index, count)))
				})
			}
		}
		if !g.isUntouched() {
			t.Errorf("%v was modified", s)
		}
	}
}

// listsOf are all lists of numbers of a session.
func listsOf(s impl.Session) [][]float32 {
	lists := samplesOfClips(s.Clips)
	for _, strip := range s.Strips {
		lists = append(lists, numbersOf(strip.Effects)...)
	}
	return lists
}

// wantSessionsApart looks whether sessions share memory with each other or within themselves, and clears them.
func wantSessionsApart(t *testing.T, what string, sessions []impl.Session, lists ...[]float32) {
	t.Helper()
	var chains [][]impl.Effect
	for _, s := range sessions {
		lists = append(lists, listsOf(s)...)
		for _, strip := range s.Strips {
			chains = append(chains, strip.Effects)
		}
	}
	wantOwnMemory(t, what, lists...)
	wantApart(t, what, chains, nil)
	for i, s := range sessions {
		for k := range s.Clips[:cap(s.Clips)] {
			s.Clips[:cap(s.Clips)][k] = impl.Clip{At: -55 - int64(i)}
		}
		for k := range s.Strips[:cap(s.Strips)] {
			s.Strips[:cap(s.Strips)][k] = impl.Strip{Tenths: -55 - int64(i)}
		}
	}
	for i, s := range sessions {
		isOther := func(c impl.Clip) bool { return c.At != -55-int64(i) }
		isOtherStrip := func(strip impl.Strip) bool { return strip.Tenths != -55-int64(i) }
		if slices.ContainsFunc(s.Clips, isOther) || slices.ContainsFunc(s.Strips, isOtherStrip) {
			t.Errorf("%s: the session %d shares its memory", what, i)
		}
	}
}

// sharedSession has one memory for the samples of all clips, and one for the effects of all strips and their numbers.
func sharedSession() impl.Session {
	memory := mixedSamples(8570, 40)
	e := impl.Effect{Kind: impl.EffectEcho, Length: 3, Numbers: memory[:2]}
	list := chainOf(e, gainBy(1), e)
	s := impl.Session{Clips: []impl.Clip{clipOf(0, 0, memory[:8]...), clipOf(1, 3, memory...), clipOf(0, 5, memory[3:30]...)}}
	s.Strips = []impl.Strip{stripWith(list...), stripWith(list...), stripWith(list[:2]...), {Effects: list[:2], Mute: true}}
	for i := range s.Clips {
		s.Clips[i].Samples = memory[i : 9*i+5]
	}
	return s
}

func TestPromise1SessionsShareNoMemory(t *testing.T) {
	for i, s := range append(anySessions(), sharedSession()) {
		if !impl.ValidSession(s) {
			continue
		}
		g := guardSession(s)
		var sessions []impl.Session
		var lists [][]float32
		for index := range int64(12) {
			frozen, _ := impl.FreezeTrack(g.session, index, 30)
			split, _ := impl.SplitClip(g.session, index, 1)
			repeated, _ := impl.RepeatClip(g.session, index, 2)
			sessions = append(sessions, frozen, split, repeated)
			track, _ := impl.TrackOf(g.session, index, 256)
			channel, _ := impl.ChannelOf(g.session, index, 256)
			lists = append(lists, track, channel)
		}
		compiled, _ := impl.CompileSession(g.session)
		again, ok := impl.CompileSession(g.session)
		left, right, _ := impl.BounceSession(g.session, 100)
		first, second, also := impl.BounceBlocks(g.session, 100, 1+int64(i))
		if !ok || !also {
			t.Fatalf("%v fails", s)
		}
		wantSessionsApart(t, "sessions", append(sessions, compiled, again), append(lists, left, right, first, second)...)
		if !g.isUntouched() {
			t.Errorf("a result of %v shares memory with it", s)
		}
	}
}

func TestPromise1SessionsThatShareMemoryThemselves(t *testing.T) {
	s := sharedSession()
	left, right := plainBounce(s, 60)
	wantAllBlocks(t, "one memory", s, left, right)
	wantFrozen(t, "one memory", s, 1, 60, plainFrozen(s, 1, 60))
	wantCompiled(t, "one memory", s, plainCompiled(s))
	wantSplit(t, "one memory", s, 1, 3, s.Clips[0], clipOf(1, 3, s.Clips[1].Samples[:3]...), clipOf(1, 6, s.Clips[1].Samples[3:]...), s.Clips[2])
	var results []impl.Session
	for i := range int64(3) {
		frozen, _ := impl.FreezeTrack(s, i, 60)
		split, _ := impl.SplitClip(s, i, 3)
		repeated, ok := impl.RepeatClip(s, i, 9)
		if !ok {
			t.Errorf("the clip %d is not repeated", i)
		}
		results = append(results, frozen, split, repeated)
	}
	compiled, _ := impl.CompileSession(s)
	wantSessionsApart(t, "one memory", append(results, compiled))
}

func TestPromise1SessionsOfNilAndEmptyLists(t *testing.T) {
	null := impl.Session{Strips: []impl.Strip{{}, {}}}
	empty := impl.Session{Clips: []impl.Clip{}, Strips: []impl.Strip{{Effects: []impl.Effect{}}, {Effects: []impl.Effect{}}}}
	nullClip, emptyClip := null, empty
	nullClip.Clips, emptyClip.Clips = []impl.Clip{{At: 3}, clipOf(0, 1, 4, 5)}, []impl.Clip{{At: 3, Samples: []float32{}}, clipOf(0, 1, 4, 5)}
	for i, pair := range [][2]impl.Session{{null, empty}, {nullClip, emptyClip}} {
		outcomes := func(s impl.Session) []any {
			return slices.Concat(plain(impl.ValidSession(s)), outcome(impl.LengthOf(s)), outcome(impl.CostOf(s)), sessionOutcome(impl.CompileSession(s)),
				outcome(impl.TrackOf(s, 0, 5)), outcome(impl.ChannelOf(s, 0, 5)), sessionOutcome(impl.FreezeTrack(s, 1, 5)),
				pairOutcome(impl.BounceSession(s, 5)), pairOutcome(impl.BounceBlocks(s, 5, 2)))
		}
		first, second := outcomes(pair[0]), outcomes(pair[1])
		if !reflect.DeepEqual(first, second) || slices.Contains(first, any(false)) {
			t.Errorf("pair %d: %v and %v", i, first, second)
		}
	}
	for i, pair := range [][2][]any{
		{sessionOutcome(impl.SplitClip(nullClip, 1, 1)), sessionOutcome(impl.SplitClip(emptyClip, 1, 1))},
		{sessionOutcome(impl.RepeatClip(nullClip, 1, 3)), sessionOutcome(impl.RepeatClip(emptyClip, 1, 3))},
	} {
		if !reflect.DeepEqual(pair[0], pair[1]) || pair[0][len(pair[0])-1] != true {
			t.Errorf("pair %d of clips: %v and %v", i, pair[0], pair[1])
		}
	}
}
