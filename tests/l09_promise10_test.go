package tests

import (
	"slices"
	"testing"

	"loop.example/g01170/impl"
)

// sessionsOfPromise10 have all kinds of effects, clips that overlap, and tracks that are not heard.
func sessionsOfPromise10(style, seed int) []impl.Session {
	list := []impl.Session{exampleSession(), sessionWith(8), threeClips()}
	for i := range 30 {
		list = append(list, sessionOfStyle(style, seed+50*i))
	}
	for i, letters := range []string{"........", "m.m.m.m.", "ssbb..mm", "bbbbbbbb"} {
		s := impl.Session{Strips: stripsOfFlags(letters)}
		for k, pan := range pansOf(seed+i, 8) {
			s.Strips[k].Pan, s.Strips[k].Tenths = pan, int64(40*k-200)
			s.Strips[k].Effects = slices.Concat(oneOfEach()[k%7:], oneOfEach()[:k%7], chainOf(gainBy(1)))
		}
		for k := range 12 {
			s.Clips = append(s.Clips, clipOf(int64(k*5%8), int64(20*k), samplesOfStyle(style, seed+k, 256-k)...))
		}
		list = append(list, s)
	}
	return list
}

// bounceOf returns what a session gives, which has both zeros and all other numbers as they are.
func bounceOf(t *testing.T, s impl.Session, count int64) ([]float32, []float32) {
	t.Helper()
	left, right, ok := impl.BounceSession(s, count)
	if !ok || int64(len(left)) != count || int64(len(right)) != count {
		t.Fatalf("%v is refused", s)
	}
	return left, right
}

func TestPromise10PlainSessions(t *testing.T) {
	for style := range styles {
		for i, s := range sessionsOfPromise10(style, 9500) {
			left, right := plainBounce(s, 40+5*i)
			wantBounce(t, "a plain session", s, left, right)
		}
	}
}

func TestPromise10BlocksOfAnySize(t *testing.T) {
	for style := range styles {
		for i, s := range sessionsOfPromise10(style, 10500) {
			for _, count := range []int64{0, 1, 64, 100, 255, 256} {
				left, right := bounceOf(t, s, count)
				for _, size := range []int64{1, 2, 3, 5, 31, 32, 33, 64, 100, 127, 255, 256, 1 + int64(mixedBits(i, 1)%256)} {
					wantBlocks(t, "blocks of any size", s, size, left, right)
				}
			}
		}
	}
}

// wantFrozenSame is for a session with a frozen track, which gives as many samples as the track has.
func wantFrozenSame(t *testing.T, s, frozen impl.Session, count int64) {
	t.Helper()
	for _, some := range []int64{count, count / 2, min(1, count), 0} {
		left, right := bounceOf(t, s, some)
		wantBounce(t, "a frozen track", frozen, left, right)
		wantBlocks(t, "blocks of a frozen track", frozen, 1+count/3, left, right)
	}
}

func TestPromise10FrozenTracks(t *testing.T) {
	negative := 0
	for style := range styles {
		for i, s := range sessionsOfPromise10(style, 11500) {
			for track := range s.Strips {
				count := []int64{256, 0, 1, 100, 255}[(i+track)%5]
				frozen, ok := impl.FreezeTrack(s, int64(track), count)
				if !ok {
					continue
				}
				wantFrozenSame(t, s, frozen, count)
				if slices.ContainsFunc(frozen.Clips[len(frozen.Clips)-1].Samples, func(x float32) bool { return oneBits(x) == oneBits(minus0) }) {
					negative++
				}
			}
		}
	}
	if negative < 10 {
		t.Errorf("only %d frozen clips have -0", negative)
	}
}

func TestPromise10AllTracksFrozen(t *testing.T) {
	all := 0
	for style := range styles {
		for i, s := range sessionsOfPromise10(style, 12500) {
			count := []int64{256, 50, 7}[i%3]
			frozen, tracks := s, 0
			for track := range s.Strips {
				if next, ok := impl.FreezeTrack(frozen, int64(track), count); ok {
					frozen = next
					tracks++
				}
			}
			wantFrozenSame(t, s, frozen, count)
			if tracks == len(s.Strips) {
				all++
			}
		}
	}
	if all < 50 {
		t.Errorf("only %d sessions are frozen", all)
	}
}

func TestPromise10CompiledSessions(t *testing.T) {
	fewer := 0
	for style := range styles {
		for i, s := range sessionsOfPromise10(style, 13500) {
			compiled, ok := impl.CompileSession(s)
			if !ok {
				t.Fatalf("%v is not compiled", s)
			}
			for _, count := range []int64{0, 1, 2, 50, 255, 256, int64(mixedBits(i, 2) % 257)} {
				left, right := bounceOf(t, s, count)
				wantBounce(t, "a compiled session", compiled, left, right)
				wantBlocks(t, "blocks of a compiled session", compiled, 1+count/2, left, right)
			}
			before, _ := impl.CostOf(s)
			if after, _ := impl.CostOf(compiled); after < before {
				fewer++
			}
		}
	}
	if fewer < 50 {
		t.Errorf("only %d sessions are less work", fewer)
	}
}

func TestPromise10FrozenAndCompiled(t *testing.T) {
	for style := range styles {
		for i, s := range sessionsOfPromise10(style, 14500) {
			count := []int64{256, 60, 9}[i%3]
			left, right := bounceOf(t, s, count)
			for track := range s.Strips {
				frozen, ok := impl.FreezeTrack(s, int64(track), count)
				if !ok {
					continue
				}
				first, ok := impl.CompileSession(frozen)
				compiled, also := impl.CompileSession(s)
				second, too := impl.FreezeTrack(compiled, int64(track), count)
				if !ok || !also || !too {
					t.Fatalf("track %d of %v fails", track, s)
				}
				wantBounce(t, "frozen and then compiled", first, left, right)
				wantBounce(t, "compiled and then frozen", second, left, right)
			}
		}
	}
}

func TestPromise10SplitClips(t *testing.T) {
	found := 0
	for style := range styles {
		for i, s := range sessionsOfPromise10(style, 15500) {
			left, right := bounceOf(t, s, 256)
			for clip, c := range s.Clips {
				split, ok := impl.SplitClip(s, int64(clip), 1+int64(i%20))
				if !ok {
					continue
				}
				found++
				if len(split.Clips) != len(s.Clips)+1 || len(split.Clips[clip].Samples)+len(split.Clips[clip+1].Samples) != len(c.Samples) {
					t.Errorf("%v is not split", s)
				}
				wantBounce(t, "a clip in two", split, left, right)
			}
		}
	}
	if found < 100 {
		t.Errorf("only %d clips are split", found)
	}
}
