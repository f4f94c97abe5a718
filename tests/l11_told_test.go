package tests

import (
	"fmt"
	"slices"
	"testing"

	"loop.example/g01170/impl"
)

func TestChapter11ChannelsAreShown(t *testing.T) {
	s := sessionWith(2, clipOf(0, 0, 1, 2), clipOf(0, 1, 4), clipOf(1, 1, minus0, notANum, infinity))
	s.Strips[0].Effects, s.Strips[1].Effects = chainOf(gainBy(2)), chainOf(gainBy(-1))
	s.Strips[1].Mute, s.Strips[0].Tenths, s.Strips[0].Pan = true, 100, 0.75
	wantSaid(t, s, plainText(2, 12, 0), "show 0 3")
	wantSaid(t, s, "none", "show 0 0", "show 1 0")
	wantSaid(t, s, plainText(2), "show 0 1")
	wantSaid(t, s, plainText(minus0, minus0, notANum, -infinity, minus0), "show 1 5")
	wantSaid(t, s, plainText(append([]float32{2, 12}, repeated(0, 254)...)...), "show 0 256")
	wantSaid(t, s, "no", "show 0 257", "show 0 -1", "show 2 0", "show -1 3", "show 8 3", "show 4294967296 3", "show 0 4294967296", "show 0 1000000000000000")
}

func TestChapter11Bounces(t *testing.T) {
	s := sessionWith(3, clipOf(0, 0, 1, 2), clipOf(1, 1, 4), clipOf(2, 0, 8))
	s.Strips[1].Pan, s.Strips[2].Mute = 1, true
	wantSaid(t, s, plainText(1, 2, 0)+" "+plainText(0, 4, 0), "bounce 3")
	wantSaid(t, s, "none none", "bounce 0")
	wantSaid(t, s, plainText(1)+" "+plainText(0), "bounce 1")
	wantSaid(t, s, plainText(append([]float32{1, 2}, repeated(0, 254)...)...)+" "+plainText(append([]float32{0, 4}, repeated(0, 254)...)...), "bounce 256")
	s.Strips[0].Solo, s.Strips[2].Solo = true, true
	wantSaid(t, s, plainText(1, 2)+" "+plainText(0, 0), "bounce 2")
	wantSaid(t, s, "no", "bounce 257", "bounce -1", "bounce 4294967296", "bounce -9223372036854775808", "bounce 1000000000000001", "bounce ")
	s = sessionWith(1, clipOf(0, 0, minus0, notANum, -infinity, tiny))
	wantSaid(t, s, plainText(0, notANum, -infinity, tiny)+" "+plainText(0, notANum, notANum, 0), "bounce 4")
}

func TestChapter11Peaks(t *testing.T) {
	s := sessionWith(2, clipOf(0, 0, 1, -3, 2), clipOf(1, 1, 4, -8))
	s.Strips[1].Pan = 1
	wantSaid(t, s, plainText(3, 8), "peak 3", "peak 4", "peak 256")
	wantSaid(t, s, plainText(3, 4), "peak 2")
	wantSaid(t, s, plainText(1, 0), "peak 1")
	wantSaid(t, s, plainText(0, 0), "peak 0")
	wantSaid(t, s, "no", "peak 257", "peak -1", "peak 4294967296", "peak x", "peak ")
	wantSaid(t, sessionWith(1, clipOf(0, 0, notANum, 1, minus0, notANum)), plainText(1, 0), "peak 4")
	wantSaid(t, sessionWith(1, clipOf(0, 0, notANum, notANum)), plainText(0, 0), "peak 2")
	wantSaid(t, sessionWith(1, clipOf(0, 0, 1, -infinity)), plainText(infinity, 0), "peak 2")
	wantSaid(t, sessionWith(1, clipOf(0, 0, -tiny)), plainText(tiny, 0), "peak 1")
}

func TestChapter11LengthsAndCosts(t *testing.T) {
	wantSaid(t, exampleSession(), "2", "length")
	wantSaid(t, exampleSession(), "3", "cost")
	wantSaid(t, sessionWith(1, clipOf(0, 256, make([]float32, 256)...)), "512", "length")
	s := threeClips()
	wantSaid(t, s, "9", "length")
	wantSaid(t, s, "1798", "cost")
	s.Strips[1].Solo = false
	wantSaid(t, s, "1798", "cost")
	s.Strips[0].Mute = false
	wantSaid(t, s, "2054", "cost")
}

func TestChapter11TheSameIsToldAsByFunctions(t *testing.T) {
	for style := range styles {
		for seed := range 20 {
			s := sessionOfStyle(style, 17400+50*seed)
			length, _ := impl.LengthOf(s)
			cost, _ := impl.CostOf(s)
			wantSaid(t, s, fmt.Sprint(length), "length")
			wantSaid(t, s, fmt.Sprint(cost), "cost")
			for _, count := range []int64{0, 1, 2, 50, 255, 256} {
				left, right := bounceOf(t, s, count)
				wantSaid(t, s, plainText(left...)+" "+plainText(right...), fmt.Sprint("bounce ", count))
				first, _ := impl.PeakOf(left)
				second, _ := impl.PeakOf(right)
				wantSaid(t, s, plainText(first, second), fmt.Sprint("peak ", count))
				for track := range s.Strips {
					channel, ok := impl.ChannelOf(s, int64(track), count)
					if !ok {
						t.Fatalf("track %d is refused", track)
					}
					wantSaid(t, s, plainText(channel...), fmt.Sprintf("show %d %d", track, count))
				}
			}
		}
	}
}

// What is told is of the session as it is, also if the same has been asked before.
func TestChapter11TheSameLineIsToldAnew(t *testing.T) {
	ask := "show 0 2\nbounce 2\npeak 2\nlength\ncost\n"
	left, zeros := plainText(1, 2), plainText(0, 0)
	first := left + "\n" + left + " " + zeros + "\n" + plainText(2, 0) + "\n2\n2\n"
	script := ask + ask + "clip 0 0 40800000,bf800000\n" + ask + "mute 9\n" + ask + "mute 0\n" + ask + "mute 0\n" + ask + "chain 0 0.0.40000000\n" + ask
	second := plainText(5, 1) + "\n" + plainText(5, 1) + " " + zeros + "\n" + plainText(5, 0) + "\n2\n4\n"
	muted := plainText(5, 1) + "\n" + zeros + " " + zeros + "\n" + zeros + "\n2\n4\n"
	louder := plainText(10, 2) + "\n" + plainText(10, 2) + " " + zeros + "\n" + plainText(10, 0) + "\n2\n260\n"
	outputs := first + first + "1\n" + second + "no\n" + second + "ok\n" + muted + "ok\n" + second + "ok\n" + louder
	s := sessionWith(1, clipOf(0, 0, 1, 2))
	want := sessionWith(1, clipOf(0, 0, 1, 2), clipOf(0, 0, 4, -1))
	want.Strips[0].Effects = chainOf(gainBy(2))
	wantScript(t, s, script, outputs, want)
}

// Each line that changes the session changes what is told behind it.
func TestChapter11EachChangeIsTold(t *testing.T) {
	s := sessionWith(2, clipOf(0, 0, 1, 2, 3), clipOf(1, 1, 4, 5))
	s.Strips[0].Effects, s.Strips[1].Pan = chainOf(gainBy(1), echoOf(1, 0.5, 1)), 1
	ask := "show 0 6\nshow 1 6\nbounce 6\npeak 6\nlength\ncost\n"
	for _, line := range []string{
		"clip 0 1 40000000", "tone 1 2 saw 70", "chain 0 none", "chain 1 5.0.none", "gain 1 35", "pan 0 3f000000", "mute 0", "solo 1",
		"split 0 1", "repeat 1 2", "freeze 0 2", "freeze 1 5", "compile", "track",
	} {
		next, _, ok := impl.ConsoleCommand(s, line)
		if !ok || slices.EqualFunc(next.Clips, s.Clips, isSameClip) && slices.EqualFunc(next.Strips, s.Strips, isSameStrip) {
			t.Fatalf("%s changes nothing", line)
		}
		before, after := toldOf(t, s, ask), toldOf(t, next, ask)
		if got := toldOf(t, s, ask+line+"\n"+ask); len(got) < len(before)+len(after) || got[:len(before)] != before || got[len(got)-len(after):] != after {
			t.Errorf("%s: %s", line, got)
		}
	}
}

func toldOf(t *testing.T, s impl.Session, script string) string {
	t.Helper()
	_, outputs, ok := impl.RunConsole(s, script)
	if !ok {
		t.Fatalf("%q fails", script)
	}
	return outputs
}
